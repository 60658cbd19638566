package tests

import (
	"math"
	"slices"
	"testing"

	"loop.example/g00916/impl"
)

// only returns the interval of one value.
func only(n int64) impl.Interval { return span(n, n) }

// brake returns a brake with a resistance and a force.
func brake(length int64, rise int64, resist impl.Interval, force impl.Interval) impl.Segment {
	return impl.Segment{Kind: impl.SegmentBrake, Length: length, Rise: rise, Resist: resist, Force: force}
}

// brakesOf returns a brake, and the station that is like it.
func brakesOf(x impl.Segment) []impl.Segment {
	list := []impl.Segment{x, x}
	list[0].Kind, list[1].Kind = impl.SegmentBrake, impl.SegmentStation
	return list
}

// others returns the segments of the other kinds that are like a brake.
func others(x impl.Segment) []impl.Segment {
	list := []impl.Segment{x, x, x}
	list[0].Kind, list[0].Force = impl.SegmentPlain, span(0, 0)
	list[1].Kind, list[2].Kind = impl.SegmentLift, impl.SegmentLaunch
	return list
}

// workBy returns the work of a brake, by its definition.
func workBy(x impl.Segment) impl.Interval {
	low := 2 * ((x.Force.Low+x.Resist.Low)*x.Length + 9806*x.Rise)
	high := 2 * ((x.Force.High+x.Resist.High)*x.Length + 9806*x.Rise)
	return span(low, high)
}

// stopBy returns the verdict on a brake with a work, by its definition.
func stopBy(work impl.Interval, e impl.Interval) int64 {
	switch {
	case work.Low >= 1 && e.High <= work.Low:
		return impl.StopSure
	case e.Low > work.High:
		return impl.StopNever
	default:
		return impl.StopUnclear
	}
}

// strongBrakes are brakes that slow, with small and great works, some of them beyond MaxEnergy, and
// with forces and resistances whose bounds are equal and unequal.
func strongBrakes() []impl.Segment {
	return []impl.Segment{
		brake(1, 0, only(0), only(1)), brake(1, 0, span(0, 1), span(1, 2)), brake(1, 1, only(0), only(1)), brake(1, -1, only(0), only(9807)),
		brake(1, -1, only(1), span(9806, 9807)), brake(2, -1, span(4, 7), span(4900, 4910)), brake(10, 0, only(0), only(5)), brake(10, 0, only(2), span(3, 8)),
		brake(10, 0, span(3, 7), only(2)), brake(7, 3, span(1, 5), span(2, 30)), brake(25000, 0, span(0, 100), span(5000, 6000)), brake(25000, -9000, span(0, 100), span(5000, 6000)),
		brake(199999, -14746, only(0), only(723)), brake(199999, -14746, only(0), span(723, 724)), brake(199997, -86122, only(9223), only(20000)),
		brake(200000, 0, only(5000), only(20000)), brake(200000, 0, span(5000, 6000), span(20000, 20000)), brake(200000, 100000, only(97), only(20000)),
		brake(199999, -66589, only(8265), only(20000)), brake(200000, 100000, only(impl.MaxForce), only(impl.MaxForce)), brake(impl.MaxLength, impl.MaxRise, span(0, impl.MaxForce), span(1, impl.MaxForce)),
	}
}

// weakBrakes are brakes that do not slow: the lower bounds of their works are 0 or less, and the
// upper ones are below 0, 0 or above it.
func weakBrakes() []impl.Segment {
	return []impl.Segment{
		brake(1, -1, only(0), only(9806)), brake(1, -1, only(6), only(9800)), brake(1, -1, only(0), span(9806, 9807)), brake(1, -1, span(0, 3), only(9806)),
		brake(1, -1, only(0), only(9805)), brake(1, -1, only(0), span(9805, 9806)), brake(1, -1, only(0), span(9805, 9807)), brake(1, -1, span(1, 2), span(9804, 9804)),
		brake(1, -1, only(0), only(1)), brake(200000, -100000, only(0), only(4903)), brake(200000, -100000, only(0), span(4903, 20000)), brake(200000, -100000, span(0, 20000), span(1, 20000)),
		brake(100000, -100000, only(0), only(1)), brake(100000, -100000, span(0, 1), span(1, 9804)), brake(100000, -100000, span(0, 2), span(1, 9805)), brake(25000, -25000, span(0, 100), span(5000, 6000)),
	}
}

func checkWork(t *testing.T, x impl.Segment, want impl.Interval, code int64) {
	t.Helper()
	if got, c := impl.BrakeWork(x); got != want || c != code {
		t.Errorf("BrakeWork(%v) = %v, %d; want %v, %d", x, got, c, want, code)
	}
}

func checkDistance(t *testing.T, x impl.Segment, e impl.Interval, want impl.Interval, code int64) {
	t.Helper()
	if got, c := impl.StoppingDistance(x, e); got != want || c != code {
		t.Errorf("StoppingDistance(%v, %v) = %v, %d; want %v, %d", x, e, got, c, want, code)
	}
}

func checkStop(t *testing.T, x impl.Segment, e impl.Interval, want int64, code int64) {
	t.Helper()
	if got, c := impl.StopVerdict(x, e); got != want || c != code {
		t.Errorf("StopVerdict(%v, %v) = %d, %d; want %d, %d", x, e, got, c, want, code)
	}
}

func checkGreatestStop(t *testing.T, x impl.Segment, want int64, code int64) {
	t.Helper()
	if got, c := impl.GreatestStop(x); got != want || c != code {
		t.Errorf("GreatestStop(%v) = %d, %d; want %d, %d", x, got, c, want, code)
	}
}

func checkEntry(t *testing.T, l impl.Layout, firsts []int64, block int64, want impl.Interval, code int64) {
	t.Helper()
	if got, c := impl.EntryBounds(l, firsts, block); got != want || c != code {
		t.Errorf("EntryBounds(%v, %v, %d) = %v, %d; want %v, %d", l, firsts, block, got, c, want, code)
	}
}

func checkMayEnter(t *testing.T, l impl.Layout, firsts []int64, block int64, e impl.Interval, want bool, code int64) {
	t.Helper()
	if got, c := impl.MayEnter(l, firsts, block, e); got != want || c != code {
		t.Errorf("MayEnter(%v, %v, %d, %v) = %v, %d; want %v, %d", l, firsts, block, e, got, c, want, code)
	}
}

func checkStopBound(t *testing.T, l impl.Layout, firsts []int64, block int64, e impl.Interval, want int64, code int64) {
	t.Helper()
	if got, c := impl.StopBound(l, firsts, block, e); got != want || c != code {
		t.Errorf("StopBound(%v, %v, %d, %v) = %d, %d; want %d, %d", l, firsts, block, e, got, c, want, code)
	}
}

// checkNoBrake checks what the functions of brakes return for a segment that is none.
func checkNoBrake(t *testing.T, x impl.Segment, e impl.Interval, code int64) {
	t.Helper()
	checkWork(t, x, span(0, 0), code)
	checkDistance(t, x, e, span(0, 0), code)
	checkStop(t, x, e, 0, code)
	checkGreatestStop(t, x, 0, code)
}

func TestConstantsOfStops(t *testing.T) {
	for _, c := range []struct{ got, want int64 }{{impl.StopNever, 0}, {impl.StopUnclear, 1}, {impl.StopSure, 2}} {
		if c.got != c.want {
			t.Errorf("a constant is %d, not %d", c.got, c.want)
		}
	}
}

func TestWorksOfBrakes(t *testing.T) {
	for _, c := range []struct {
		x    impl.Segment
		want impl.Interval
	}{
		// No rise, with forces and resistances whose bounds are equal and unequal.
		{brake(1, 0, only(0), only(1)), only(2)}, {brake(1, 0, span(0, 1), only(1)), span(2, 4)}, {brake(1, 0, only(0), span(1, 2)), span(2, 4)},
		{brake(1, 0, only(1), only(1)), only(4)}, {brake(10, 0, span(3, 7), span(1, 2)), span(80, 180)}, {brake(10, 0, only(3), span(1, 2)), span(80, 100)},
		{brake(25000, 0, span(0, 100), span(5000, 6000)), span(250000000, 305000000)},
		// Rises above 0.
		{brake(1, 1, only(0), only(1)), only(19614)}, {brake(7, 3, span(1, 5), span(2, 30)), span(58878, 59326)},
		{brake(25000, 100, span(0, 100), span(5000, 6000)), span(251961200, 306961200)},
		// Rises below 0.
		{brake(25000, -100, span(0, 100), span(5000, 6000)), span(248038800, 303038800)}, {brake(1, -1, only(0), only(9807)), only(2)},
		// The least work that slows is 2, as works are even; 0 and works below it do not.
		{brake(199999, -14746, only(0), span(723, 724)), span(2, 400000)}, {brake(1, -1, only(0), span(9806, 9807)), span(0, 2)}, {brake(1, -1, only(6), only(9800)), only(0)},
		{brake(1, -1, only(0), span(9805, 9807)), span(-2, 2)}, {brake(1, -1, only(0), span(9805, 9806)), span(-2, 0)}, {brake(1, -1, only(0), only(9805)), only(-2)},
		{brake(1, -1, only(0), only(1)), only(-19610)}, {brake(25000, -25000, span(0, 100), span(5000, 6000)), span(-240300000, -185300000)},
		{brake(100000, -100000, only(0), only(1)), only(-1961000000)},
		// Works around MaxEnergy, and the greatest one.
		{brake(199997, -86122, only(9223), only(20000)), only(full - 2)}, {brake(200000, 0, only(5000), only(20000)), only(full)}, {brake(200000, -100000, only(9903), only(20000)), only(full)},
		{brake(199999, -66589, only(8265), only(20000)), only(full + 2)}, {brake(impl.MaxLength, impl.MaxRise, span(0, impl.MaxForce), span(1, impl.MaxForce)), span(1961600000, 17961200000)},
	} {
		for _, x := range brakesOf(c.x) {
			checkWork(t, x, c.want, impl.ErrNone)
		}
	}
}

func TestWorksByTheirDefinition(t *testing.T) {
	for _, b := range append(strongBrakes(), weakBrakes()...) {
		for _, x := range brakesOf(b) {
			checkWork(t, x, workBy(x), impl.ErrNone)
		}
	}
}

// TestWorksAreWhatTrainsLose checks the energies behind brakes whose devices are on all the way,
// with the least and the greatest force and resistance.
func TestWorksAreWhatTrainsLose(t *testing.T) {
	for _, b := range append(strongBrakes(), weakBrakes()...) {
		for _, x := range brakesOf(b) {
			least, most := int64(math.MaxInt64), int64(math.MinInt64)
			for _, f := range []int64{x.Force.Low, x.Force.High} {
				for _, r := range []int64{x.Resist.Low, x.Resist.High} {
					lost := -changeBy(resisting(x, only(r))).Low + 2*f*x.Length
					least, most = min(least, lost), max(most, lost)
				}
			}
			checkWork(t, x, span(least, most), impl.ErrNone)
		}
	}
}

// TestSegmentsWithoutBrakes has all other kinds; most of these segments would slow as brakes.
func TestSegmentsWithoutBrakes(t *testing.T) {
	for _, b := range append(strongBrakes(), weakBrakes()...) {
		for _, x := range others(b) {
			for _, e := range []impl.Interval{span(0, 0), span(0, 1), span(0, full), only(full), span(5000, 6000)} {
				checkNoBrake(t, x, e, impl.ErrState)
			}
		}
	}
}

func TestBrakesThatDoNotSlow(t *testing.T) {
	for _, b := range weakBrakes() {
		if workBy(b).Low >= 1 {
			t.Fatalf("%v slows", b)
		}
		for _, x := range brakesOf(b) {
			checkGreatestStop(t, x, 0, impl.ErrState)
			for _, e := range []impl.Interval{span(0, 0), span(0, 1), span(0, full), only(full), span(5000, 6000)} {
				checkDistance(t, x, e, span(0, 0), impl.ErrState)
				checkStop(t, x, e, stopBy(workBy(x), e), impl.ErrNone)
			}
		}
	}
}

func TestStoppingDistances(t *testing.T) {
	even := brake(10, 0, only(0), only(5))                        // 100
	uneven := brake(10, 0, span(2, 7), span(3, 8))                // 100 to 300
	long := brake(25000, 0, span(0, 100), span(5000, 6000))       // 250000000 to 305000000
	least := brake(199999, -14746, only(0), only(723))            // 2
	wide := brake(199999, -14746, only(0), span(723, 724))        // 2 to 400000
	full25 := brake(200000, 0, only(5000), only(20000))           // MaxEnergy
	great := brake(200000, 100000, only(20000), span(1, 20000))   // 9961600000 to 17961200000
	beyond := brake(199999, -66589, only(8265), only(20000))      // MaxEnergy + 2
	short := brake(199997, -86122, only(9223), only(20000))       // MaxEnergy - 2
	rising := brake(7, 3, span(1, 5), span(2, 30))                // 58878 to 59326
	falling := brake(25000, -100, span(0, 100), span(5000, 6000)) // 248038800 to 303038800
	for _, c := range []struct {
		x       impl.Segment
		e, want impl.Interval
	}{
		// Distances that are exact, and such that are rounded down or up, or both.
		{even, only(0), only(0)}, {even, only(50), only(5)}, {even, only(49), span(4, 5)}, {even, only(51), span(5, 6)}, {even, span(50, 60), span(5, 6)}, {even, span(50, 59), span(5, 6)},
		{even, span(51, 60), span(5, 6)}, {even, span(0, 1), span(0, 1)}, {even, only(1), span(0, 1)}, {even, only(9), span(0, 1)}, {even, only(10), only(1)}, {even, only(11), span(1, 2)},
		// The distance is Length, one below it and one beyond it, for energies of the work, one below it
		// and one beyond it.
		{even, only(100), only(10)}, {even, only(99), span(9, 10)}, {even, only(101), span(10, 11)}, {even, only(90), only(9)}, {even, only(91), span(9, 10)}, {even, only(110), only(11)},
		{even, only(111), span(11, 12)}, {even, span(0, 100), span(0, 10)}, {even, span(0, 101), span(0, 11)},
		// Both works.
		{uneven, only(100), span(3, 10)}, {uneven, only(99), span(3, 10)}, {uneven, only(90), span(3, 9)}, {uneven, only(89), span(2, 9)}, {uneven, only(101), span(3, 11)},
		{uneven, span(89, 91), span(2, 10)}, {uneven, only(299), span(9, 30)}, {uneven, only(300), span(10, 30)}, {uneven, only(301), span(10, 31)}, {uneven, only(330), span(11, 33)}, {uneven, span(29, 30), span(0, 3)},
		{long, span(100000000, 100000001), span(8196, 10001)}, {long, only(250000000), span(20491, 25000)}, {long, only(249990000), span(20490, 24999)}, {long, only(250000001), span(20491, 25001)},
		{long, only(305000000), span(25000, 30500)}, {long, only(304999999), span(24999, 30500)}, {long, only(305000001), span(25000, 30501)}, {long, only(0), only(0)},
		{rising, only(58878), span(6, 7)}, {rising, only(59326), span(7, 8)}, {rising, only(8411), span(0, 1)}, {rising, only(8412), span(0, 2)},
		{falling, only(248038800), span(20462, 25000)}, {falling, only(303038800), span(25000, 30544)},
		// Distances that are no values, with the least work that slows.
		{least, only(0), only(0)}, {least, only(1), span(99999, 100000)}, {least, only(2), only(199999)}, {least, only(3), span(299998, 299999)}, {least, only(full), only(999995000000000)},
		{least, only(full - 1), span(999994999900000, 999994999900001)}, {wide, only(full), span(4999975000, 999995000000000)}, {wide, span(0, full), span(0, 999995000000000)},
		// Works of MaxEnergy, one that is less and such that are greater.
		{full25, only(full), only(200000)}, {full25, only(full - 1), span(199999, 200000)}, {full25, only(full - 50000), only(199999)}, {full25, span(0, full-50001), span(0, 199999)},
		{short, only(full - 2), only(199997)}, {short, only(full - 1), span(199997, 199998)}, {short, only(full), span(199997, 199998)},
		{beyond, only(full), span(199998, 199999)}, {great, only(full), span(111351, 200771)}, {great, only(9961600000), span(110923, 200000)}, {great, span(0, 1), span(0, 1)},
	} {
		for _, x := range brakesOf(c.x) {
			checkDistance(t, x, c.e, c.want, impl.ErrNone)
		}
	}
}

// checkRounded checks a distance against its definition: the lower bound is the greatest number
// that is at most e.Low * Length / W, and the upper one the least that is at least e.High * Length / w.
func checkRounded(t *testing.T, x impl.Segment, e impl.Interval) {
	t.Helper()
	work := workBy(x)
	d, code := impl.StoppingDistance(x, e)
	least, most := e.Low*x.Length, e.High*x.Length
	if code != impl.ErrNone || d.Low*work.High > least || (d.Low+1)*work.High <= least || d.High*work.Low < most || (d.High-1)*work.Low >= most {
		t.Errorf("StoppingDistance(%v, %v) = %v, %d", x, e, d, code)
	}
}

// aroundEnergies returns energies at numbers, and one below and beyond them, from small to great.
func aroundEnergies(numbers ...int64) []int64 {
	var list []int64
	for _, n := range numbers {
		for _, m := range []int64{n - 2, n - 1, n, n + 1, n + 2} {
			if m >= 0 && m <= full {
				list = append(list, m)
			}
		}
	}
	slices.Sort(list)
	return slices.Compact(list)
}

// TestDistancesAndVerdictsByTheirDefinition has all intervals between energies that matter for a
// brake: the bounds of its work and of all energies, and those for which the distance is exact.
func TestDistancesAndVerdictsByTheirDefinition(t *testing.T) {
	for _, b := range append(strongBrakes(), weakBrakes()...) {
		work := workBy(b)
		numbers := aroundEnergies(0, work.Low, work.High, work.Low/2, work.Low/b.Length, work.High/b.Length, work.Low/b.Length*(b.Length-1), 2*work.High, full)
		for _, x := range brakesOf(b) {
			for i, low := range numbers {
				for _, high := range numbers[i:] {
					e := span(low, high)
					checkStop(t, x, e, stopBy(work, e), impl.ErrNone)
					if work.Low < 1 {
						checkDistance(t, x, e, span(0, 0), impl.ErrState)
					} else {
						checkRounded(t, x, e)
					}
				}
			}
		}
	}
}

func TestStopsAtTheirLimits(t *testing.T) {
	long := brake(25000, 0, span(0, 100), span(5000, 6000)) // 250000000 to 305000000
	equal := brake(10, 0, only(0), only(5))                 // 100
	for _, c := range []struct {
		x    impl.Segment
		e    impl.Interval
		want int64
	}{
		{long, only(0), impl.StopSure}, {long, span(0, 250000000), impl.StopSure}, {long, only(250000000), impl.StopSure}, {long, only(249999999), impl.StopSure},
		{long, span(0, 250000001), impl.StopUnclear}, {long, only(250000001), impl.StopUnclear}, {long, span(250000000, 250000001), impl.StopUnclear},
		{long, span(0, full), impl.StopUnclear}, {long, only(304999999), impl.StopUnclear}, {long, only(305000000), impl.StopUnclear}, {long, span(305000000, full), impl.StopUnclear},
		{long, span(305000000, 305000001), impl.StopUnclear}, {long, only(305000001), impl.StopNever}, {long, span(305000001, full), impl.StopNever}, {long, only(full), impl.StopNever},
		{equal, only(100), impl.StopSure}, {equal, only(101), impl.StopNever}, {equal, span(100, 101), impl.StopUnclear}, {equal, span(99, 100), impl.StopSure}, {equal, span(0, 101), impl.StopUnclear},
		// A brake that does not slow stops no train surely, not even one that stands.
		{brake(1, -1, only(0), only(9806)), only(0), impl.StopUnclear}, {brake(1, -1, only(0), only(9806)), only(1), impl.StopNever}, {brake(1, -1, only(0), only(9806)), span(0, 1), impl.StopUnclear},
		{brake(1, -1, only(0), span(9806, 9807)), only(0), impl.StopUnclear}, {brake(1, -1, only(0), span(9806, 9807)), only(2), impl.StopUnclear}, {brake(1, -1, only(0), span(9806, 9807)), only(3), impl.StopNever},
		{brake(1, -1, only(0), span(9805, 9806)), only(0), impl.StopUnclear}, {brake(1, -1, only(0), span(9805, 9806)), only(1), impl.StopNever}, {brake(1, -1, only(0), only(9805)), only(0), impl.StopNever},
		{brake(1, -1, only(0), span(9805, 9807)), span(2, full), impl.StopUnclear}, {brake(1, -1, only(0), span(9805, 9807)), span(3, full), impl.StopNever}, {brake(25000, -25000, span(0, 100), span(5000, 6000)), span(0, full), impl.StopNever},
		// The least work that slows.
		{brake(1, 0, only(0), only(1)), only(2), impl.StopSure}, {brake(1, 0, only(0), only(1)), span(2, 3), impl.StopUnclear}, {brake(1, 0, only(0), only(1)), only(3), impl.StopNever},
		// Works around MaxEnergy.
		{brake(199997, -86122, only(9223), only(20000)), only(full - 2), impl.StopSure}, {brake(199997, -86122, only(9223), only(20000)), only(full - 1), impl.StopNever},
		{brake(200000, 0, only(5000), only(20000)), span(0, full), impl.StopSure}, {brake(199999, -66589, only(8265), only(20000)), only(full), impl.StopSure},
	} {
		for _, x := range brakesOf(c.x) {
			checkStop(t, x, c.e, c.want, impl.ErrNone)
		}
	}
}

func TestGreatestStops(t *testing.T) {
	for _, c := range []struct {
		x    impl.Segment
		want int64
	}{
		{brake(1, 0, only(0), only(1)), 2}, {brake(1, -1, only(0), span(9807, 20000)), 2}, {brake(1, 1, only(0), only(1)), 19614}, {brake(10, 0, span(2, 7), span(3, 8)), 100},
		{brake(25000, 0, span(0, 100), span(5000, 6000)), 250000000}, {brake(199997, -86122, only(9223), only(20000)), full - 2}, {brake(200000, 0, only(5000), only(20000)), full},
		{brake(199999, -66589, only(8265), only(20000)), full}, {brake(impl.MaxLength, impl.MaxRise, only(impl.MaxForce), only(impl.MaxForce)), full},
		// Only the upper bound of the work is greater than MaxEnergy.
		{brake(impl.MaxLength, impl.MaxRise, span(0, impl.MaxForce), span(1, impl.MaxForce)), 1961600000},
	} {
		for _, x := range brakesOf(c.x) {
			checkGreatestStop(t, x, c.want, impl.ErrNone)
		}
	}
}

// TestTrainsStopSurelyUpToTheGreatestStop checks also that a train that surely stops does so within
// the segment.
func TestTrainsStopSurelyUpToTheGreatestStop(t *testing.T) {
	for _, b := range strongBrakes() {
		for _, x := range brakesOf(b) {
			n, code := impl.GreatestStop(x)
			if code != impl.ErrNone || n < 1 || n > full {
				t.Errorf("GreatestStop(%v) = %d, %d", x, n, code)
			}
			checkStop(t, x, only(n), impl.StopSure, impl.ErrNone)
			checkStop(t, x, span(0, n), impl.StopSure, impl.ErrNone)
			if d, code := impl.StoppingDistance(x, span(0, n)); d.Low != 0 || d.High > x.Length || code != impl.ErrNone {
				t.Errorf("StoppingDistance(%v, {0, %d}) = %v, %d", x, n, d, code)
			}
			if n == full {
				continue
			}
			if v, code := impl.StopVerdict(x, only(n+1)); v == impl.StopSure || code != impl.ErrNone {
				t.Errorf("StopVerdict(%v, %d) = %d, %d", x, n+1, v, code)
			}
			if d, code := impl.StoppingDistance(x, only(n+1)); d.High <= x.Length || code != impl.ErrNone {
				t.Errorf("StoppingDistance(%v, %d) = %v, %d", x, n+1, d, code)
			}
		}
	}
}

func TestInvalidBrakesAndEnergies(t *testing.T) {
	for _, b := range brokenSegments() {
		for _, x := range append(brakesOf(b), b, resisting(b, span(5, 4))) {
			if impl.IsSegment(x) {
				continue
			}
			checkWork(t, x, span(0, 0), impl.ErrInvalid)
			checkGreatestStop(t, x, 0, impl.ErrInvalid)
			for _, e := range append(notEnergies(), span(0, 0), span(0, full), span(5, 7), only(full)) {
				checkDistance(t, x, e, span(0, 0), impl.ErrInvalid)
				checkStop(t, x, e, 0, impl.ErrInvalid)
			}
		}
	}
	// The energy comes before the kind of the segment, and before whether it slows.
	for _, b := range append(strongBrakes(), weakBrakes()...) {
		for _, x := range append(brakesOf(b), others(b)...) {
			for _, e := range notEnergies() {
				checkDistance(t, x, e, span(0, 0), impl.ErrInvalid)
				checkStop(t, x, e, 0, impl.ErrInvalid)
			}
		}
	}
}

// ride is the circuit of README.md. The comments are the changes of the segments and the works of
// the brakes.
func ride() impl.Layout {
	return circuit(
		impl.Segment{Kind: impl.SegmentLift, Length: 20000, Rise: 10000, Resist: span(0, 100), Force: span(2000, 3000)}, // -200120000 to -196120000
		slope(30000, -10000, span(50, 100)),                          // 190120000 to 193120000
		brake(25000, 0, span(0, 100), span(5000, 6000)),              // -5000000 to 0, 250000000 to 305000000
		brakesOf(brake(15000, 0, span(0, 100), span(3000, 4000)))[1], // 90000000 to 123000000
	)
}

// gentle is a level circuit whose changes and works are small. The comments are the changes of the
// segments and the works of the brakes.
func gentle() impl.Layout {
	return circuit(
		slope(2, 0, span(1, 3)),                                 // -12 to -4
		resisting(device(impl.SegmentLaunch, 1, 0), span(0, 2)), // -4 to 0
		brake(3, 0, span(0, 1), span(4, 5)),                     // -6 to 0, 24 to 36
		resisting(device(impl.SegmentLift, 4, 0), only(2)),      // -16
		slope(1, 0, only(5)),                                    // -10
		resisting(device(impl.SegmentLift, 3, 0), span(0, 1)),   // -6 to 0
		slope(5, 0, span(0, 2)),                                 // -20 to 0
		brake(7, 0, only(1), only(1)),                           // -14, 28
		brake(2, 0, span(2, 3), span(1, 9)),                     // -12 to -8, 12 to 48
		brakesOf(brake(6, 0, only(0), only(4)))[1],              // 0, 48
	)
}

// leading returns a circuit whose first block has some segments, and its blocks. The second block
// has lifts that make up for their rises, and a station.
func leading(segments ...impl.Segment) (impl.Layout, []int64) {
	list := slices.Clone(segments)
	for _, x := range segments {
		if x.Rise != 0 {
			list = append(list, device(impl.SegmentLift, x.Length, -x.Rise))
		}
	}
	return circuit(append(list, plain(1, 0), station(1000))...), []int64{0, int64(len(segments))}
}

// hilly returns some steepest falls, as many climbs, and a last segment. A fall changes the energy by
// 1941200000 to 1961200000, and a climb by -1981200000 to -1961200000.
func hilly(count int, last impl.Segment) []impl.Segment {
	list := slices.Repeat([]impl.Segment{plain(100000, -impl.MaxRise)}, count)
	list = append(list, slices.Repeat([]impl.Segment{plain(100000, impl.MaxRise)}, count)...)
	return append(list, last)
}

// partsBy returns the segments of a block before the holding one, and the holding one.
func partsBy(l impl.Layout, firsts []int64, block int64) ([]impl.Segment, impl.Segment) {
	list := l.Segments[firsts[block]:]
	if block+1 < int64(len(firsts)) {
		list = l.Segments[firsts[block]:firsts[block+1]]
	}
	return list[:len(list)-1], list[len(list)-1]
}

// entersBy reports whether a train may enter a block with the energy n, by the definition.
func entersBy(l impl.Layout, firsts []int64, block int64, n int64) bool {
	before, holding := partsBy(l, firsts, block)
	e := only(n)
	for _, x := range before {
		change := changeBy(x)
		e = span(e.Low+change.Low, e.High+change.High)
		if e.Low < 0 || e.High > full {
			return false
		}
	}
	return holding.Kind == impl.SegmentLift || stopBy(workBy(holding), e) == impl.StopSure
}

func TestBoundsOfEntriesOfARide(t *testing.T) {
	for _, c := range []struct {
		firsts []int64
		block  int64
		want   impl.Interval
		code   int64
	}{
		// The first, a middle and the last block, which end with a lift, a brake and a station.
		{[]int64{0, 1, 3}, 0, span(0, full), impl.ErrNone}, {[]int64{0, 1, 3}, 1, span(0, 56880000), impl.ErrNone}, {[]int64{0, 1, 3}, 2, span(0, 90000000), impl.ErrNone},
		// A train coasts over the lift here, and over the brake, which then is too much for the station.
		{[]int64{0, 3}, 0, span(200120000, 253000000), impl.ErrNone}, {[]int64{0, 3}, 1, span(0, 90000000), impl.ErrNone}, {[]int64{0, 1}, 0, span(0, full), impl.ErrNone}, {[]int64{0, 1}, 1, span(0, 0), impl.ErrState},
	} {
		checkEntry(t, ride(), c.firsts, c.block, c.want, c.code)
	}
}

func TestBoundsOfEntriesOfAGentleRide(t *testing.T) {
	for _, c := range []struct {
		firsts []int64
		block  int64
		want   impl.Interval
		code   int64
	}{
		{[]int64{0, 3, 4, 6, 8, 9}, 0, span(16, 28), impl.ErrNone}, {[]int64{0, 3, 4, 6, 8, 9}, 1, span(0, full), impl.ErrNone}, {[]int64{0, 3, 4, 6, 8, 9}, 2, span(10, full), impl.ErrNone},
		{[]int64{0, 3, 4, 6, 8, 9}, 3, span(20, 28), impl.ErrNone}, {[]int64{0, 3, 4, 6, 8, 9}, 4, span(0, 12), impl.ErrNone}, {[]int64{0, 3, 4, 6, 8, 9}, 5, span(0, 48), impl.ErrNone},
		{[]int64{0, 9}, 0, span(0, 0), impl.ErrState}, {[]int64{0, 8}, 0, span(0, 0), impl.ErrState}, {[]int64{0, 3}, 0, span(16, 28), impl.ErrNone}, {[]int64{0, 3}, 1, span(78, 96), impl.ErrNone},
		{[]int64{0, 6}, 0, span(48, full), impl.ErrNone}, {[]int64{0, 6}, 1, span(46, 70), impl.ErrNone}, {[]int64{0, 4}, 0, span(22, full), impl.ErrNone}, {[]int64{0, 4}, 1, span(62, 80), impl.ErrNone},
		{[]int64{0, 4, 8}, 1, span(36, 38), impl.ErrNone}, {[]int64{0, 4, 9}, 1, span(0, 0), impl.ErrState}, {[]int64{0, 4, 9}, 2, span(0, 48), impl.ErrNone},
	} {
		checkEntry(t, gentle(), c.firsts, c.block, c.want, c.code)
	}
}

func TestBoundsOfEntries(t *testing.T) {
	least := brake(1, 0, only(0), only(1))                  // 2
	long := brake(25000, 0, span(0, 100), span(5000, 6000)) // 250000000
	greatest := brake(200000, 0, only(5000), only(20000))   // MaxEnergy
	less := brake(200000, 0, only(4999), only(20000))       // MaxEnergy - 400000
	lift := device(impl.SegmentLift, 30, 0)
	rough := slope(125000, 0, span(0, impl.MaxForce)) // -5000000000 to 0
	for _, c := range []struct {
		segments []impl.Segment
		want     impl.Interval
		code     int64
	}{
		// One energy alone, which is 2, 0 or MaxEnergy; and none, where the next possible change is greater.
		{[]impl.Segment{slope(1, 0, span(0, 1)), least}, only(2), impl.ErrNone}, {[]impl.Segment{slope(1, 0, span(0, 2)), least}, span(0, 0), impl.ErrState},
		{[]impl.Segment{slope(1, 0, only(1)), least}, span(2, 4), impl.ErrNone}, {[]impl.Segment{slope(1, 0, span(1, 2)), least}, only(4), impl.ErrNone}, {[]impl.Segment{slope(1, 0, span(1, 3)), least}, span(0, 0), impl.ErrState},
		{[]impl.Segment{slope(1, -1, only(0)), brake(1, 0, only(0), only(9806))}, only(0), impl.ErrNone}, {[]impl.Segment{slope(1, -1, only(0)), brake(1, 0, only(0), only(9805))}, span(0, 0), impl.ErrState},
		{[]impl.Segment{slope(1, -1, only(0)), brake(1, 0, only(0), only(9807))}, span(0, 2), impl.ErrNone},
		{[]impl.Segment{rough, rough, lift}, only(full), impl.ErrNone}, {[]impl.Segment{rough, rough, slope(1, 0, only(1)), lift}, span(0, 0), impl.ErrState}, {[]impl.Segment{rough, rough, greatest}, only(full), impl.ErrNone},
		{[]impl.Segment{rough, rough, less}, span(0, 0), impl.ErrState}, {[]impl.Segment{rough, rough, slope(1, -1, only(1)), lift}, span(0, 0), impl.ErrState},
		// A brake that does not slow, alone and behind a climb; one behind which too much is lost.
		{[]impl.Segment{weakBrakes()[0]}, span(0, 0), impl.ErrState}, {[]impl.Segment{weakBrakes()[2]}, span(0, 0), impl.ErrState}, {[]impl.Segment{slope(1, 1, only(0)), weakBrakes()[6]}, span(0, 0), impl.ErrState},
		{[]impl.Segment{slope(10, 0, only(5)), weakBrakes()[1]}, span(0, 0), impl.ErrState}, {[]impl.Segment{slope(10, 0, only(5)), brake(1, -1, only(0), only(9807))}, span(100, 102), impl.ErrNone},
		// Energies that end at MaxEnergy, and such that end before it.
		{[]impl.Segment{greatest}, span(0, full), impl.ErrNone}, {[]impl.Segment{brake(199999, -66589, only(8265), only(20000))}, span(0, full), impl.ErrNone}, {[]impl.Segment{brake(199997, -86122, only(9223), only(20000))}, span(0, full-2), impl.ErrNone},
		{[]impl.Segment{slope(10, 0, only(5)), greatest}, span(100, full), impl.ErrNone}, {[]impl.Segment{slope(10, 0, only(5)), less}, span(100, full-399900), impl.ErrNone}, {[]impl.Segment{slope(10, 0, only(20000)), less}, span(400000, full), impl.ErrNone},
		{[]impl.Segment{slope(9807, -1, only(0)), greatest}, span(0, full-19612), impl.ErrNone}, {[]impl.Segment{slope(9807, -1, only(0)), brake(199999, -66589, only(8265), only(20000))}, span(0, full-19612), impl.ErrNone},
		{[]impl.Segment{slope(9807, -1, only(0)), lift}, span(0, full-19612), impl.ErrNone}, {[]impl.Segment{slope(9807, -1, only(1)), lift}, span(2, full), impl.ErrNone}, {[]impl.Segment{lift}, span(0, full), impl.ErrNone},
		// A segment in the middle decides the lower bound, the upper one, or both.
		{[]impl.Segment{plain(1000, 100), plain(1000, -100), long}, span(2161200, 250000000), impl.ErrNone}, {[]impl.Segment{plain(1000, 100), plain(1000, -100), lift}, span(2161200, full), impl.ErrNone},
		{hilly(1, greatest), span(40000000, full-1961200000), impl.ErrNone}, {hilly(4, greatest), span(160000000, full-4*1961200000), impl.ErrNone}, {hilly(4, lift), span(160000000, full-4*1961200000), impl.ErrNone},
		{hilly(4, long), span(160000000, 250000000), impl.ErrNone}, {hilly(5, greatest), span(0, 0), impl.ErrState}, {hilly(5, lift), span(0, 0), impl.ErrState},
		{[]impl.Segment{plain(100000, -100000), plain(100000, 100000), plain(100000, 100000), plain(100000, -100000), lift}, span(2021200000, full-1961200000), impl.ErrNone},
		// The last segment before the holding one decides both.
		{[]impl.Segment{plain(1000, 0), plain(1000, 10), lift}, span(596120, full), impl.ErrNone}, {[]impl.Segment{plain(1000, 0), plain(1000, -100), lift}, span(200000, full-1961200), impl.ErrNone},
	} {
		l, firsts := leading(c.segments...)
		checkEntry(t, l, firsts, 0, c.want, c.code)
		if c.code != impl.ErrNone {
			checkNoEntry(t, l, firsts, 0)
			continue
		}
		checkEntriesAtTheirBounds(t, l, firsts, 0, c.want)
	}
}

// checkNoEntry checks that a train may enter a block with no energy.
func checkNoEntry(t *testing.T, l impl.Layout, firsts []int64, block int64) {
	t.Helper()
	checkEntry(t, l, firsts, block, span(0, 0), impl.ErrState)
	for _, e := range []impl.Interval{only(0), only(1), only(2), span(0, 2), span(0, full), only(5000), only(200000000), span(full-1, full), only(full)} {
		checkMayEnter(t, l, firsts, block, e, false, impl.ErrNone)
		checkStopBound(t, l, firsts, block, e, 0, impl.ErrState)
	}
}

// checkEntriesAtTheirBounds checks entries with intervals of energies that lie within the bounds,
// partly within them, and outside of them.
func checkEntriesAtTheirBounds(t *testing.T, l impl.Layout, firsts []int64, block int64, bounds impl.Interval) {
	t.Helper()
	numbers := aroundEnergies(0, bounds.Low, (bounds.Low+bounds.High)/2, bounds.High, full)
	for i, low := range numbers {
		for _, high := range numbers[i:] {
			e := span(low, high)
			may := low >= bounds.Low && high <= bounds.High
			checkMayEnter(t, l, firsts, block, e, may, impl.ErrNone)
			if may {
				checkBound(t, l, firsts, block, e)
			} else {
				checkStopBound(t, l, firsts, block, e, 0, impl.ErrState)
			}
		}
	}
}

// checkBound checks the bound of a train that may enter a block by its definition: the brake needs
// at most the distance in its segment for the greatest energy there, and not less.
func checkBound(t *testing.T, l impl.Layout, firsts []int64, block int64, e impl.Interval) {
	t.Helper()
	before, holding := partsBy(l, firsts, block)
	start, most := int64(0), e.High
	for _, x := range before {
		start += x.Length
		most += changeBy(x).High
	}
	bound, code := impl.StopBound(l, firsts, block, e)
	length, _ := impl.BlockLength(l, firsts, block)
	distance, work := bound-start, workBy(holding).Low
	exact := distance*work >= most*holding.Length && (distance-1)*work < most*holding.Length
	if holding.Kind == impl.SegmentLift {
		exact = distance == holding.Length
	}
	if code != impl.ErrNone || !exact || bound > length || distance < 0 {
		t.Errorf("StopBound(%v, %v, %d, %v) = %d, %d; the block has the length %d", l, firsts, block, e, bound, code, length)
	}
}

func TestBoundsOfStops(t *testing.T) {
	firsts := []int64{0, 3, 4, 6, 8, 9}
	for _, c := range []struct {
		block int64
		e     impl.Interval
		want  int64
		code  int64
	}{
		// The brake is behind two segments; the end of the block is at 6.
		{0, only(16), 5, impl.ErrNone}, {0, only(20), 5, impl.ErrNone}, {0, only(21), 6, impl.ErrNone}, {0, only(27), 6, impl.ErrNone}, {0, only(28), 6, impl.ErrNone}, {0, span(16, 20), 5, impl.ErrNone},
		{0, span(16, 28), 6, impl.ErrNone}, {0, span(20, 21), 6, impl.ErrNone}, {0, only(15), 0, impl.ErrState}, {0, only(29), 0, impl.ErrState}, {0, span(15, 20), 0, impl.ErrState}, {0, span(20, 29), 0, impl.ErrState},
		{0, span(0, full), 0, impl.ErrState}, {0, span(0, 15), 0, impl.ErrState}, {0, only(0), 0, impl.ErrState},
		// Blocks that end with a lift.
		{1, only(0), 4, impl.ErrNone}, {1, span(0, full), 4, impl.ErrNone}, {1, only(full), 4, impl.ErrNone}, {2, only(10), 4, impl.ErrNone}, {2, span(10, full), 4, impl.ErrNone}, {2, only(9), 0, impl.ErrState}, {2, span(9, full), 0, impl.ErrState},
		// One segment before the brake, and then none.
		{3, only(20), 10, impl.ErrNone}, {3, only(21), 11, impl.ErrNone}, {3, span(20, 24), 11, impl.ErrNone}, {3, only(25), 12, impl.ErrNone}, {3, only(28), 12, impl.ErrNone}, {3, only(29), 0, impl.ErrState}, {3, only(19), 0, impl.ErrState},
		{4, only(0), 0, impl.ErrNone}, {4, only(1), 1, impl.ErrNone}, {4, span(0, 6), 1, impl.ErrNone}, {4, only(7), 2, impl.ErrNone}, {4, span(0, 12), 2, impl.ErrNone}, {4, span(0, 13), 0, impl.ErrState},
		// The last block.
		{5, only(0), 0, impl.ErrNone}, {5, only(8), 1, impl.ErrNone}, {5, only(9), 2, impl.ErrNone}, {5, span(0, 40), 5, impl.ErrNone}, {5, span(0, 41), 6, impl.ErrNone}, {5, span(0, 48), 6, impl.ErrNone}, {5, only(49), 0, impl.ErrState},
	} {
		checkStopBound(t, gentle(), firsts, c.block, c.e, c.want, c.code)
		checkMayEnter(t, gentle(), firsts, c.block, c.e, c.code == impl.ErrNone, impl.ErrNone)
	}
	checkStopBound(t, ride(), []int64{0, 1, 3}, 1, span(4000000, 9000000), 50212, impl.ErrNone)
	checkStopBound(t, ride(), []int64{0, 1, 3}, 1, only(0), 49312, impl.ErrNone)
	checkStopBound(t, ride(), []int64{0, 1, 3}, 1, only(56870000), 54999, impl.ErrNone)
	checkStopBound(t, ride(), []int64{0, 1, 3}, 1, only(56870001), 55000, impl.ErrNone)
	checkStopBound(t, ride(), []int64{0, 1, 3}, 1, span(0, 56880000), 55000, impl.ErrNone)
	checkStopBound(t, ride(), []int64{0, 1, 3}, 1, span(0, 56880001), 0, impl.ErrState)
	checkStopBound(t, ride(), []int64{0, 3}, 0, only(200120000), 69712, impl.ErrNone)
}

// TestEachGentleEntry has each interval of the energies that matter, on all blocks of a circuit.
func TestEachGentleEntry(t *testing.T) {
	for _, firsts := range blockLists(gentle()) {
		for block := range int64(len(firsts)) {
			for low := int64(0); low <= 110; low++ {
				may := true
				for high := low; high <= 110; high++ {
					may = may && entersBy(gentle(), firsts, block, high)
					checkMayEnter(t, gentle(), firsts, block, span(low, high), may, impl.ErrNone)
					if may {
						checkBound(t, gentle(), firsts, block, span(low, high))
					} else {
						checkStopBound(t, gentle(), firsts, block, span(low, high), 0, impl.ErrState)
					}
				}
			}
		}
	}
}

// mixedBlocks calls use with circuits whose first block has three segments out of several and one
// that holds.
func mixedBlocks(use func(l impl.Layout, firsts []int64)) {
	pieces := []impl.Segment{
		slope(1, 0, span(0, 1)), slope(10, 0, only(5)), plain(100000, -100000), plain(100000, 100000), slope(200000, 0, span(0, 20000)), slope(3, -1, span(2, 40)),
		device(impl.SegmentLift, 2, 1), device(impl.SegmentLaunch, 50000, -40000), station(40), weakBrakes()[3],
	}
	holding := []impl.Segment{
		brake(1, 0, only(0), only(1)), brake(25000, 0, span(0, 100), span(5000, 6000)), brakesOf(brake(200000, 50000, only(2000), only(20000)))[1], brake(30, -10, span(2000, 2100), span(3000, 4000)),
		device(impl.SegmentLift, 500, 20), brakesOf(weakBrakes()[2])[1], brakesOf(brake(90000, 0, span(0, 5), span(18000, 20000)))[1],
	}
	for _, a := range pieces {
		for _, b := range pieces {
			for _, c := range pieces {
				for _, last := range holding {
					use(leading(a, b, c, last))
				}
			}
		}
	}
}

// checkEntries checks all bounds of the entries of a block by the definition. If a train may enter
// with any energy, it may do so with the least one with which it surely passes all segments.
func checkEntries(t *testing.T, l impl.Layout, firsts []int64, block int64) {
	t.Helper()
	before, _ := partsBy(l, firsts, block)
	need, sum := int64(0), int64(0)
	for _, x := range before {
		sum += changeBy(x).Low
		need = max(need, -sum)
	}
	if need > full || !entersBy(l, firsts, block, need) {
		checkNoEntry(t, l, firsts, block)
		return
	}
	bounds, code := impl.EntryBounds(l, firsts, block)
	if code != impl.ErrNone || bounds.Low != need || bounds.High > full || !entersBy(l, firsts, block, bounds.High) || bounds.High < full && entersBy(l, firsts, block, bounds.High+1) {
		t.Errorf("EntryBounds(%v, %v, %d) = %v, %d", l, firsts, block, bounds, code)
		return
	}
	checkEntriesAtTheirBounds(t, l, firsts, block, bounds)
}

func TestEntriesByTheirDefinition(t *testing.T) {
	for _, l := range enteredLayouts() {
		for _, firsts := range blockLists(l) {
			for block := range int64(len(firsts)) {
				checkEntries(t, l, firsts, block)
			}
		}
	}
	mixedBlocks(func(l impl.Layout, firsts []int64) { checkEntries(t, l, firsts, 0) })
}

// enteredLayouts are circuits with blocks of one segment and of several.
func enteredLayouts() []impl.Layout {
	first, _ := leading(hilly(4, brake(25000, 0, span(0, 100), span(5000, 6000)))...)
	second, _ := leading(hilly(2, device(impl.SegmentLift, 30, 0))...)
	return append(blockedLayouts(), ride(), gentle(), coaster(), valley(), first, second)
}

// checkStopped lets trains with an energy of e enter a block, with the least and the greatest
// resistances in turn and with the least and the greatest force of the brake, and checks that they
// stop within the bound.
func checkStopped(t *testing.T, l impl.Layout, firsts []int64, block int64, e impl.Interval) {
	t.Helper()
	before, holding := partsBy(l, firsts, block)
	bound, code := impl.StopBound(l, firsts, block, e)
	length, _ := impl.BlockLength(l, firsts, block)
	if code != impl.ErrNone || bound > length {
		t.Errorf("StopBound(%v, %v, %d, %v) = %d, %d; the block has the length %d", l, firsts, block, e, bound, code, length)
	}
	for pattern := range 8 {
		for _, energy := range []int64{e.Low, (e.Low + e.High) / 2, e.High} {
			distance := bound
			for i, x := range before {
				distance -= x.Length
				energy += changeBy(resisting(x, only([]int64{x.Resist.Low, x.Resist.High}[pattern>>(i%2)&1]))).Low
				if energy < 0 || energy > full {
					t.Errorf("a train with an energy of %v does not pass the block %d of %v", e, block, l)
				}
			}
			force := []int64{holding.Force.Low, holding.Force.High}[pattern>>2]
			for _, r := range []int64{holding.Resist.Low, holding.Resist.High} {
				work := 2*force*holding.Length - changeBy(resisting(holding, only(r))).Low
				if holding.Kind != impl.SegmentLift && energy*holding.Length > distance*work {
					t.Errorf("StopBound(%v, %v, %d, %v) = %d, but a train stops behind it", l, firsts, block, e, bound)
				}
			}
		}
	}
}

// TestTrainsStopWithinTheirBounds checks promise 7.
func TestTrainsStopWithinTheirBounds(t *testing.T) {
	check := func(l impl.Layout, firsts []int64) {
		for block := range int64(len(firsts)) {
			bounds, code := impl.EntryBounds(l, firsts, block)
			if code != impl.ErrNone {
				continue
			}
			middle := (bounds.Low + bounds.High) / 2
			for _, e := range []impl.Interval{bounds, only(bounds.Low), only(middle), only(bounds.High), span(bounds.Low, middle), span(middle, bounds.High)} {
				checkMayEnter(t, l, firsts, block, e, true, impl.ErrNone)
				checkStopped(t, l, firsts, block, e)
			}
		}
	}
	for _, l := range enteredLayouts() {
		for _, firsts := range blockLists(l) {
			check(l, firsts)
		}
	}
	mixedBlocks(check)
}

// checkNoBlock checks what the functions of blocks return for a block that there is not, with the
// code ErrInvalid or ErrRange. Energies with which a train may enter no block make no difference.
func checkNoBlock(t *testing.T, l impl.Layout, firsts []int64, block int64, code int64) {
	t.Helper()
	checkEntry(t, l, firsts, block, span(0, 0), code)
	for _, e := range []impl.Interval{span(0, 0), span(5, 7), span(0, full), only(full)} {
		checkMayEnter(t, l, firsts, block, e, false, code)
		checkStopBound(t, l, firsts, block, e, 0, code)
	}
	for _, e := range notEnergies() {
		checkMayEnter(t, l, firsts, block, e, false, impl.ErrInvalid)
		checkStopBound(t, l, firsts, block, e, 0, impl.ErrInvalid)
	}
}

func TestEntriesIntoNoBlock(t *testing.T) {
	for _, l := range []impl.Layout{ride(), gentle(), hills(), coaster(), valley()} {
		for _, firsts := range blockLists(l) {
			count := int64(len(firsts))
			for _, block := range append([]int64{count, count + 1, 2 * count}, far...) {
				checkNoBlock(t, l, firsts, block, impl.ErrRange)
			}
		}
	}
	// A layout of which no block can be entered.
	weak := circuit(brakesOf(weakBrakes()[2])[0], device(impl.SegmentBrake, 3, 2), slope(5, -1, only(impl.MaxForce)), brakesOf(weakBrakes()[0])[0], plain(1, 1), station(1))
	for _, block := range []int64{-1, 4, 5} {
		checkNoBlock(t, weak, []int64{0, 1, 2, 4}, block, impl.ErrRange)
	}
}

func TestEntriesWithoutBlocks(t *testing.T) {
	for _, firsts := range [][]int64{nil, {}, {0}, {1, 3}, {0, 2}, {0, 1, 4}, {0, 0}, {0, 3, 1}, {-1, 0}, {0, 1, 2, 3}, {0, math.MaxInt64}, {math.MinInt64, 0}, rising(9)} {
		for _, block := range slices.Concat(near, far) {
			checkNoBlock(t, ride(), firsts, block, impl.ErrInvalid)
		}
	}
	layouts := brokenLayouts()
	for _, x := range brokenSegments() {
		for i := range 4 {
			l := ride()
			l.Segments[i] = x
			layouts = append(layouts, l)
		}
	}
	for _, l := range layouts {
		for _, block := range []int64{0, 1, 2, 3, -1, 8, math.MaxInt64, math.MinInt64} {
			for _, firsts := range [][]int64{{0, 1, 3}, {0, 1}, {0, 3}, nil, {0, 2}} {
				checkNoBlock(t, l, firsts, block, impl.ErrInvalid)
			}
		}
	}
}

func TestEnergiesOfEntriesAreEnergies(t *testing.T) {
	for _, e := range notEnergies() {
		for _, firsts := range blockLists(gentle()) {
			for block := range int64(len(firsts)) {
				checkMayEnter(t, gentle(), firsts, block, e, false, impl.ErrInvalid)
				checkStopBound(t, gentle(), firsts, block, e, 0, impl.ErrInvalid)
			}
		}
	}
}

func TestArgumentsOfEntriesAreNotChanged(t *testing.T) {
	segments := append(gentle().Segments, plain(77, 7), plain(78, 8))
	numbers := []int64{0, 3, 4, 6, 8, 9, 77, 78}
	keptSegments, keptNumbers := slices.Clone(segments), slices.Clone(numbers)
	l, firsts := circuit(segments[:10]...), numbers[:6]
	for block := range int64(6) {
		for n := range int64(60) {
			impl.EntryBounds(l, firsts, block)
			impl.MayEnter(l, firsts, block, span(n, n+2))
			impl.StopBound(l, firsts, block, span(n, n+2))
		}
	}
	if !slices.Equal(segments, keptSegments) || !slices.Equal(numbers, keptNumbers) {
		t.Errorf("the segments became %v, the blocks %v", segments, numbers)
	}
	// What one call adds up does not go on in the next one.
	for range 2 {
		checkEntry(t, l, firsts, 0, span(16, 28), impl.ErrNone)
		checkStopBound(t, l, firsts, 0, span(16, 21), 6, impl.ErrNone)
	}
}
