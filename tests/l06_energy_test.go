package tests

import (
	"math"
	"slices"
	"testing"

	"loop.example/g00916/impl"
)

// full is the greatest energy.
const full = impl.MaxEnergy

// resisting returns a segment with another resistance.
func resisting(x impl.Segment, resist impl.Interval) impl.Segment {
	x.Resist = resist
	return x
}

// slope returns a plain segment with a resistance.
func slope(length int64, rise int64, resist impl.Interval) impl.Segment {
	return resisting(plain(length, rise), resist)
}

// coaster is a circuit with all five kinds. The comments are the changes of the segments.
func coaster() impl.Layout {
	return circuit(
		slope(20000, -6000, span(10, 50)),                             // 115672000 to 117272000
		slope(15000, 4000, span(20, 20)),                              // -79048000
		resisting(device(impl.SegmentLaunch, 10000, 0), span(0, 100)), // -2000000 to 0
		resisting(device(impl.SegmentLift, 12000, 5000), span(5, 10)), // -98300000 to -98180000
		resisting(device(impl.SegmentBrake, 8000, -3000), span(0, 0)), // 58836000
		resisting(device(impl.SegmentStation, 9000, 0), span(40, 60)), // -1080000 to -720000
	)
}

// rough returns a level circuit whose first two segments need an energy of 9999960000 together; the
// station needs 2 * resist * length more.
func rough(length int64, resist int64) impl.Layout {
	return circuit(
		slope(125000, 0, span(0, impl.MaxForce)),
		slope(124999, 0, span(0, impl.MaxForce)),
		resisting(station(length), span(0, resist)),
	)
}

// valley goes down so far that a train from its beginning comes to more than the greatest energy,
// and up again.
func valley() impl.Layout {
	list := slices.Repeat([]impl.Segment{plain(100000, -impl.MaxRise)}, 6)
	list = append(list, slices.Repeat([]impl.Segment{plain(100000, impl.MaxRise)}, 6)...)
	return circuit(append(list, station(1000))...)
}

// coastedLayouts are circuits with falls and climbs, with short and long segments, and with
// resistances whose bounds are equal and unequal.
func coastedLayouts() []impl.Layout {
	return append(validLayouts(), coaster(), rough(1, impl.MaxForce), rough(3, 6667), valley())
}

// changeBy returns the change of a segment, by its definition.
func changeBy(x impl.Segment) impl.Interval {
	return span(-2*9806*x.Rise-2*x.Resist.High*x.Length, -2*9806*x.Rise-2*x.Resist.Low*x.Length)
}

// notEnergies are intervals that are no energies.
func notEnergies() []impl.Interval {
	return append(slices.Clone(notValid),
		span(-1, 0), span(-1, -1), span(-1, full), span(-full, 0), span(-top, top),
		span(0, full+1), span(full, full+1), span(full+1, full+1), span(-1, full+1), span(0, top), span(top, top),
		span(5, 4), span(full, 0), span(full, full-1), span(0, full*1000), span(1<<62, 1<<62),
	)
}

// brokenSegments are segments that are not valid.
func brokenSegments() []impl.Segment {
	changes := []func(*impl.Segment){
		func(x *impl.Segment) { x.Kind = -1 },
		func(x *impl.Segment) { x.Kind = 5 },
		func(x *impl.Segment) { x.Length, x.Rise = 0, 0 },
		func(x *impl.Segment) { x.Length = impl.MaxLength + 1 },
		func(x *impl.Segment) { x.Length = math.MaxInt64 },
		func(x *impl.Segment) { x.Rise = x.Length + 1 },
		func(x *impl.Segment) { x.Rise = -x.Length - 1 },
		func(x *impl.Segment) { x.Rise = math.MinInt64 },
		func(x *impl.Segment) { x.Resist = span(2, 1) },
		func(x *impl.Segment) { x.Resist = span(-1, 0) },
		func(x *impl.Segment) { x.Resist = span(0, impl.MaxForce+1) },
		func(x *impl.Segment) { x.Resist = span(math.MinInt64, math.MaxInt64) },
		func(x *impl.Segment) { x.Force = span(2, 1) },
		func(x *impl.Segment) { x.Force = span(0, 0) },
		func(x *impl.Segment) { x.Force = span(1, impl.MaxForce+1) },
		func(x *impl.Segment) { x.Kind = impl.SegmentPlain },
	}
	list := []impl.Segment{{}}
	for _, change := range changes {
		x := sample(impl.SegmentBrake)
		change(&x)
		list = append(list, x)
	}
	return list
}

func checkEnergy(t *testing.T, e impl.Interval, want bool) {
	t.Helper()
	if got := impl.IsEnergy(e); got != want {
		t.Errorf("IsEnergy(%v) = %v", e, got)
	}
}

func checkEnergyOfSpeed(t *testing.T, v int64, want int64, code int64) {
	t.Helper()
	if got, c := impl.EnergyOfSpeed(v); got != want || c != code {
		t.Errorf("EnergyOfSpeed(%d) = %d, %d; want %d, %d", v, got, c, want, code)
	}
}

func checkSpeed(t *testing.T, e impl.Interval, want impl.Interval, code int64) {
	t.Helper()
	if got, c := impl.SpeedOf(e); got != want || c != code {
		t.Errorf("SpeedOf(%v) = %v, %d; want %v, %d", e, got, c, want, code)
	}
}

func checkChange(t *testing.T, x impl.Segment, want impl.Interval, code int64) {
	t.Helper()
	if got, c := impl.ChangeOf(x); got != want || c != code {
		t.Errorf("ChangeOf(%v) = %v, %d; want %v, %d", x, got, c, want, code)
	}
}

func checkVerdict(t *testing.T, x impl.Segment, e impl.Interval, want int64, code int64) {
	t.Helper()
	if got, c := impl.PassVerdict(x, e); got != want || c != code {
		t.Errorf("PassVerdict(%v, %v) = %d, %d; want %d, %d", x, e, got, c, want, code)
	}
}

func checkAfter(t *testing.T, x impl.Segment, e impl.Interval, want impl.Interval, code int64) {
	t.Helper()
	if got, c := impl.EnergyAfter(x, e); got != want || c != code {
		t.Errorf("EnergyAfter(%v, %v) = %v, %d; want %v, %d", x, e, got, c, want, code)
	}
}

func checkAlong(t *testing.T, l impl.Layout, from int64, count int64, e impl.Interval, want []impl.Interval, code int64) {
	t.Helper()
	if got, c := impl.EnergyAlong(l, from, count, e); !slices.Equal(got, want) || c != code {
		t.Errorf("EnergyAlong(%v, %d, %d, %v) = %v, %d; want %v, %d", l, from, count, e, got, c, want, code)
	}
}

func checkNeeded(t *testing.T, l impl.Layout, from int64, count int64, want int64, code int64) {
	t.Helper()
	if got, c := impl.EnergyNeeded(l, from, count); got != want || c != code {
		t.Errorf("EnergyNeeded(%v, %d, %d) = %d, %d; want %d, %d", l, from, count, got, c, want, code)
	}
}

func TestConstantsOfEnergies(t *testing.T) {
	for _, c := range []struct{ got, want int64 }{
		{impl.Gravity, 9806}, {impl.MaxSpeed, 100000}, {impl.MaxEnergy, 10000000000},
		{impl.PassNever, 0}, {impl.PassUnclear, 1}, {impl.PassSure, 2},
	} {
		if c.got != c.want {
			t.Errorf("a constant is %d, not %d", c.got, c.want)
		}
	}
}

func TestValidEnergies(t *testing.T) {
	for _, e := range []impl.Interval{
		{}, span(0, 1), span(1, 1), span(0, full-1), span(0, full), span(1, full), span(full-1, full), span(full, full), span(5, 7),
	} {
		checkEnergy(t, e, true)
	}
	for _, e := range notEnergies() {
		checkEnergy(t, e, false)
	}
}

func TestEnergiesOfSpeeds(t *testing.T) {
	for _, c := range []struct{ v, want int64 }{
		{0, 0}, {1, 1}, {2, 4}, {3, 9}, {1000, 1000000}, {31623, 1000014129}, {99999, 9999800001}, {100000, full},
	} {
		checkEnergyOfSpeed(t, c.v, c.want, impl.ErrNone)
	}
	// The squares of some of these wrap around to 0 or to a small number.
	for _, v := range []int64{-1, -2, -99999, -100000, -100001, 100001, 100002, 1 << 32, 1<<32 + 1, -1 << 32, 1 << 62, math.MaxInt64, math.MinInt64} {
		checkEnergyOfSpeed(t, v, 0, impl.ErrRange)
	}
}

func TestSpeedsOfEnergies(t *testing.T) {
	for _, c := range []struct{ e, want impl.Interval }{
		{span(0, 0), span(0, 0)}, {span(0, 1), span(0, 1)}, {span(1, 1), span(1, 1)}, {span(1, 2), span(1, 2)}, {span(2, 2), span(1, 2)},
		{span(3, 4), span(1, 2)}, {span(4, 4), span(2, 2)}, {span(4, 5), span(2, 3)}, {span(5, 5), span(2, 3)}, {span(3, 5), span(1, 3)},
		{span(8, 10), span(2, 4)}, {span(9, 9), span(3, 3)}, {span(0, full), span(0, 100000)}, {span(full, full), span(100000, 100000)},
		{span(full-1, full-1), span(99999, 100000)}, {span(full-1, full), span(99999, 100000)}, {span(0, full-1), span(0, 100000)},
		{span(9999800001, 9999800001), span(99999, 99999)}, {span(9999800000, 9999800002), span(99998, 100000)},
		{span(9999800000, 9999800001), span(99998, 99999)}, {span(9999800001, 9999800002), span(99999, 100000)},
	} {
		checkSpeed(t, c.e, c.want, impl.ErrNone)
	}
	for _, e := range notEnergies() {
		checkSpeed(t, e, span(0, 0), impl.ErrInvalid)
	}
}

// TestSpeedsAreRecovered has bounds that are squares and bounds that are one more or one less.
func TestSpeedsAreRecovered(t *testing.T) {
	for v := int64(2); v <= impl.MaxSpeed; v += 1 + v/50 {
		n, code := impl.EnergyOfSpeed(v)
		checkSpeed(t, span(n, n), span(v, v), code)
		checkSpeed(t, span(n-1, n), span(v-1, v), impl.ErrNone)
		checkSpeed(t, span(n-1, n-1), span(v-1, v), impl.ErrNone)
		if v < impl.MaxSpeed {
			checkSpeed(t, span(n, n+1), span(v, v+1), impl.ErrNone)
			checkSpeed(t, span(n+1, n+1), span(v, v+1), impl.ErrNone)
			checkSpeed(t, span(n-1, n+1), span(v-1, v+1), impl.ErrNone)
		}
	}
}

func TestChangesOfSegments(t *testing.T) {
	for _, c := range []struct {
		length, rise int64
		resist, want impl.Interval
	}{
		// No rise.
		{1, 0, span(0, 0), span(0, 0)}, {1, 0, span(0, 1), span(-2, 0)}, {1, 0, span(1, 1), span(-2, -2)}, {3, 0, span(5, 7), span(-42, -30)},
		{impl.MaxLength, 0, span(0, 0), span(0, 0)}, {impl.MaxLength, 0, span(impl.MaxForce, impl.MaxForce), span(-8000000000, -8000000000)},
		// Rises above 0.
		{1, 1, span(0, 0), span(-19612, -19612)}, {1, 1, span(0, 1), span(-19614, -19612)}, {7, 3, span(2, 4), span(-58892, -58864)},
		{impl.MaxLength, impl.MaxRise, span(0, impl.MaxForce), span(-9961200000, -1961200000)},
		// Rises below 0.
		{1, -1, span(0, 0), span(19612, 19612)}, {1, -1, span(0, 1), span(19610, 19612)}, {30000, -10000, span(50, 100), span(190120000, 193120000)},
		{9806, -1, span(1, 1), span(0, 0)}, {9806, -1, span(0, 2), span(-19612, 19612)}, {9807, -1, span(1, 1), span(-2, -2)},
		{impl.MaxRise, -impl.MaxRise, span(0, 0), span(1961200000, 1961200000)},
		{impl.MaxLength, -impl.MaxRise, span(0, impl.MaxForce), span(-6038800000, 1961200000)},
	} {
		checkChange(t, slope(c.length, c.rise, c.resist), c.want, impl.ErrNone)
		// The device is off, so that its force does not matter.
		for _, kind := range []int64{impl.SegmentLift, impl.SegmentLaunch, impl.SegmentBrake, impl.SegmentStation} {
			for _, force := range []impl.Interval{span(1, 1), span(1, impl.MaxForce), span(impl.MaxForce, impl.MaxForce)} {
				x := resisting(device(kind, c.length, c.rise), c.resist)
				x.Force = force
				checkChange(t, x, c.want, impl.ErrNone)
			}
		}
	}
}

func TestChangesByTheirDefinition(t *testing.T) {
	for _, l := range coastedLayouts() {
		for _, x := range l.Segments {
			checkChange(t, x, changeBy(x), impl.ErrNone)
		}
	}
}

// TestChangesOfPieces lets trains coast over the pieces of a segment, each with another value of its
// resistance.
func TestChangesOfPieces(t *testing.T) {
	for _, rise := range []int64{-3, -1, 0, 1, 3} {
		least, most := int64(math.MaxInt64), int64(math.MinInt64)
		for _, f := range []int64{4, 5, 9} {
			for _, g := range []int64{4, 7, 9} {
				for _, h := range []int64{4, 8, 9} {
					change := 3*(-2*impl.Gravity*rise) - 2*(f+g+h)*5
					least, most = min(least, change), max(most, change)
				}
			}
		}
		checkChange(t, slope(3*5, 3*rise, span(4, 9)), span(least, most), impl.ErrNone)
	}
}

func TestVerdictsAtTheirLimits(t *testing.T) {
	hill := slope(30000, 10000, span(50, 100)) // -202120000 to -199120000
	for _, c := range []struct {
		x    impl.Segment
		e    impl.Interval
		want int64
	}{
		{hill, span(202120000, 202120000), impl.PassSure}, {hill, span(202120000, full), impl.PassSure}, {hill, span(full, full), impl.PassSure},
		{hill, span(202119999, 202119999), impl.PassUnclear}, {hill, span(202119999, full), impl.PassUnclear}, {hill, span(0, full), impl.PassUnclear},
		{hill, span(199120000, 199120000), impl.PassUnclear}, {hill, span(0, 199120000), impl.PassUnclear}, {hill, span(0, 199120001), impl.PassUnclear},
		{hill, span(199119999, 199119999), impl.PassNever}, {hill, span(0, 199119999), impl.PassNever}, {hill, span(0, 0), impl.PassNever},
		{hill, span(199119999, 199120000), impl.PassUnclear}, {hill, span(199119999, 202120000), impl.PassUnclear},
		// With equal bounds of the resistance there is no doubt about one energy.
		{slope(10, 0, span(3, 3)), span(60, 60), impl.PassSure}, {slope(10, 0, span(3, 3)), span(59, 59), impl.PassNever},
		{slope(10, 0, span(3, 3)), span(59, 60), impl.PassUnclear},
		// A level without resistance, and a fall, are passed with no energy.
		{slope(10, 0, span(0, 0)), span(0, 0), impl.PassSure}, {slope(10, 0, span(0, 1)), span(0, 0), impl.PassUnclear}, {slope(10, 0, span(0, 1)), span(20, 20), impl.PassSure},
		{slope(10, 0, span(1, 1)), span(0, 0), impl.PassNever}, {slope(10, -5, span(0, 100)), span(0, 0), impl.PassSure}, {slope(9807, -1, span(1, 1)), span(0, 1), impl.PassNever},
		{slope(9807, -1, span(1, 1)), span(0, 2), impl.PassUnclear}, {slope(9807, -1, span(1, 1)), span(2, 2), impl.PassSure}, {slope(9806, -1, span(1, 1)), span(0, 0), impl.PassSure},
		// A train surely passes also if it has more than the greatest energy behind the segment.
		{slope(10, -5, span(0, 100)), span(full, full), impl.PassSure},
	} {
		checkVerdict(t, c.x, c.e, c.want, impl.ErrNone)
	}
}

// TestVerdictsOfEachEnergy checks the verdicts against the numbers of energies and changes with
// which a train passes.
func TestVerdictsOfEachEnergy(t *testing.T) {
	for _, x := range []impl.Segment{slope(1, 0, span(1, 4)), slope(1, 0, span(2, 2)), slope(9805, -1, span(0, 1)), slope(9809, -1, span(1, 1))} {
		change := changeBy(x)
		for low := int64(0); low <= 12; low++ {
			for high := low; high <= 12; high++ {
				want := int64(impl.PassUnclear)
				switch {
				case low+change.Low >= 0:
					want = impl.PassSure
				case high+change.High < 0:
					want = impl.PassNever
				}
				checkVerdict(t, x, span(low, high), want, impl.ErrNone)
				if want == impl.PassSure {
					checkAfter(t, x, span(low, high), span(low+change.Low, high+change.High), impl.ErrNone)
				} else {
					checkAfter(t, x, span(low, high), span(0, 0), impl.ErrState)
				}
			}
		}
	}
}

func TestEnergiesBehindSegments(t *testing.T) {
	drop := slope(30000, -10000, span(50, 100))                   // 190120000 to 193120000
	hill := slope(30000, 10000, span(50, 100))                    // -202120000 to -199120000
	wide := slope(impl.MaxLength, -10000, span(0, impl.MaxForce)) // -7803880000 to 196120000
	for _, c := range []struct {
		x       impl.Segment
		e, want impl.Interval
		code    int64
	}{
		{drop, span(4000000, 9000000), span(194120000, 202120000), impl.ErrNone}, {drop, span(0, 0), span(190120000, 193120000), impl.ErrNone},
		{hill, span(202120000, 202120000), span(0, 3000000), impl.ErrNone}, {hill, span(202120001, 300000000), span(1, 100880000), impl.ErrNone},
		// The lower bound is one below 0.
		{hill, span(202119999, 202119999), span(0, 0), impl.ErrState}, {hill, span(202119999, full), span(0, 0), impl.ErrState},
		// The upper bound is 0, and one below it.
		{hill, span(0, 199120000), span(0, 0), impl.ErrState}, {hill, span(0, 199119999), span(0, 0), impl.ErrState},
		{slope(10, 0, span(3, 3)), span(60, 60), span(0, 0), impl.ErrNone}, {slope(10, 0, span(3, 3)), span(59, 59), span(0, 0), impl.ErrState},
		{slope(10, 0, span(3, 3)), span(59, 60), span(0, 0), impl.ErrState}, {slope(10, 0, span(3, 3)), span(60, 61), span(0, 1), impl.ErrNone},
		// The upper bound is the greatest energy, and one beyond it.
		{drop, span(0, full-193120000), span(190120000, full), impl.ErrNone}, {drop, span(0, full-193119999), span(0, 0), impl.ErrLimit},
		{drop, span(0, full), span(0, 0), impl.ErrLimit}, {drop, span(full-193120000, full-193120000), span(full-3000000, full), impl.ErrNone},
		// The lower bound is the greatest energy, and one beyond it.
		{slope(10, -5, span(3, 3)), span(full-98000, full-98000), span(full, full), impl.ErrNone}, {slope(10, -5, span(3, 3)), span(full-97999, full-97999), span(0, 0), impl.ErrLimit},
		{slope(10, -5, span(3, 3)), span(full-98000, full-97999), span(0, 0), impl.ErrLimit}, {drop, span(full, full), span(0, 0), impl.ErrLimit}, {drop, span(full-190120000, full), span(0, 0), impl.ErrLimit},
		// A change of 0 keeps each energy.
		{slope(10, 0, span(0, 0)), span(full, full), span(full, full), impl.ErrNone}, {slope(10, 0, span(0, 0)), span(0, full), span(0, full), impl.ErrNone}, {slope(10, 0, span(0, 0)), span(0, 0), span(0, 0), impl.ErrNone},
		// Both errors at once, and each one of them on the same segment.
		{wide, span(0, full), span(0, 0), impl.ErrState}, {wide, span(7803879999, full-196119999), span(0, 0), impl.ErrState},
		{wide, span(7803880000, full-196119999), span(0, 0), impl.ErrLimit}, {wide, span(7803879999, full-196120000), span(0, 0), impl.ErrState}, {wide, span(7803880000, full-196120000), span(0, full), impl.ErrNone},
	} {
		checkAfter(t, c.x, c.e, c.want, c.code)
	}
}

// TestMoreEnergyIsNotLessBehind checks that more energy before a segment is not less behind it.
func TestMoreEnergyIsNotLessBehind(t *testing.T) {
	for _, l := range coastedLayouts() {
		for _, x := range l.Segments {
			before, verdict := span(0, 0), int64(impl.PassNever)
			for n := int64(0); n <= full; n += full / 400 {
				v, _ := impl.PassVerdict(x, span(n, n))
				after, code := impl.EnergyAfter(x, span(n, n))
				if v < verdict || (code == impl.ErrNone) != (v == impl.PassSure && n+changeBy(x).High <= full) {
					t.Errorf("the energy %d before %v has the verdict %d behind %d, and the error %d", n, x, v, verdict, code)
				}
				if code == impl.ErrNone && (after.Low < before.Low || after.High < before.High || after.High-after.Low != changeBy(x).High-changeBy(x).Low) {
					t.Errorf("the energy %d before %v is %v behind it, after %v", n, x, after, before)
				}
				if code == impl.ErrNone {
					before = after
				}
				verdict = v
			}
		}
	}
}

func TestInvalidSegmentsAndEnergies(t *testing.T) {
	segments := []impl.Segment{plain(10, 0), slope(30000, 10000, span(50, 100)), slope(30000, -10000, span(50, 100)), sample(impl.SegmentLift), station(10)}
	for _, e := range append(notEnergies(), span(0, 0), span(0, full), span(5, 7), span(full, full)) {
		for _, x := range brokenSegments() {
			checkChange(t, x, span(0, 0), impl.ErrInvalid)
			checkVerdict(t, x, e, 0, impl.ErrInvalid)
			checkAfter(t, x, e, span(0, 0), impl.ErrInvalid)
		}
	}
	for _, e := range notEnergies() {
		for _, x := range segments {
			checkVerdict(t, x, e, 0, impl.ErrInvalid)
			checkAfter(t, x, e, span(0, 0), impl.ErrInvalid)
		}
	}
}

func TestEnergiesAlongRuns(t *testing.T) {
	e := span(100000000, 120000000)
	all := []impl.Interval{span(215672000, 237272000), span(136624000, 158224000), span(134624000, 158224000), span(36324000, 60044000), span(95160000, 118880000), span(94080000, 118160000)}
	for count := range all {
		checkAlong(t, coaster(), 0, int64(count), e, all[:count], impl.ErrNone)
	}
	checkAlong(t, coaster(), 0, 6, e, all, impl.ErrNone)
	checkAlong(t, coaster(), 2, 1, e, []impl.Interval{span(98000000, 120000000)}, impl.ErrNone)
	// Over the last segment to the first one, and on around the circuit.
	checkAlong(t, coaster(), 5, 1, e, []impl.Interval{span(98920000, 119280000)}, impl.ErrNone)
	checkAlong(t, coaster(), 5, 3, e, []impl.Interval{span(98920000, 119280000), span(214592000, 236552000), span(135544000, 157504000)}, impl.ErrNone)
	checkAlong(t, coaster(), 4, 3, e, []impl.Interval{span(158836000, 178836000), span(157756000, 178116000), span(273428000, 295388000)}, impl.ErrNone)
	checkAlong(t, coaster(), 0, 8, e, append(all, span(209752000, 235432000), span(130704000, 156384000)), impl.ErrNone)
	// A run of no segment has no energies, and no errors of them.
	for from := range int64(6) {
		checkAlong(t, coaster(), from, 0, span(0, 0), nil, impl.ErrNone)
		checkAlong(t, coaster(), from, 0, span(0, full), nil, impl.ErrNone)
	}
}

// alongBySteps returns what EnergyAlong has to return, segment by segment.
func alongBySteps(l impl.Layout, from int64, count int64, e impl.Interval) ([]impl.Interval, int64) {
	var list []impl.Interval
	segment := int(from)
	for range count {
		change := changeBy(l.Segments[segment])
		e = span(e.Low+change.Low, e.High+change.High)
		if e.Low < 0 {
			return nil, impl.ErrState
		}
		if e.High > full {
			return nil, impl.ErrLimit
		}
		list = append(list, e)
		if segment++; segment == len(l.Segments) {
			segment = 0
		}
	}
	return list, impl.ErrNone
}

// TestEachRun checks the runs from each segment with each count, up to eight times around the
// circuit.
func TestEachRun(t *testing.T) {
	for _, l := range coastedLayouts() {
		for from := range int64(len(l.Segments)) {
			for count := range int64(impl.MaxSegments + 1) {
				for _, e := range []impl.Interval{span(0, 0), span(0, full), span(10000, 20000), span(80000000, 90000000), span(400000000, 400000001), span(full/2, full/2), span(full, full)} {
					want, code := alongBySteps(l, from, count, e)
					checkAlong(t, l, from, count, e, want, code)
				}
			}
		}
	}
}

func TestFirstErrorsOfRuns(t *testing.T) {
	wide := circuit(slope(impl.MaxLength, -10000, span(0, impl.MaxForce)), plain(10000, 10000), station(5))
	for _, c := range []struct {
		l           impl.Layout
		from, count int64
		e           impl.Interval
		code        int64
	}{
		// Too little energy for the first segment, for a middle one and for the last one.
		{coaster(), 1, 1, span(79047999, 79048000), impl.ErrState}, {coaster(), 1, 6, span(79047999, 79048000), impl.ErrState},
		{coaster(), 0, 6, span(63675999, 63676000), impl.ErrState}, {coaster(), 0, 24, span(63675999, 63676000), impl.ErrState}, {coaster(), 0, 4, span(63675999, 63676000), impl.ErrState},
		{coaster(), 0, 10, span(69595999, 69596000), impl.ErrState}, {coaster(), 5, 1, span(1079999, 1079999), impl.ErrState},
		// Too much energy behind the first segment, behind a middle one and behind the last one.
		{coaster(), 0, 1, span(full-117271999, full-117271999), impl.ErrLimit}, {coaster(), 0, 6, span(full-117271999, full-117271999), impl.ErrLimit},
		{coaster(), 5, 2, span(full-116551999, full-116551999), impl.ErrLimit}, {coaster(), 5, 4, span(full-116551999, full-116551999), impl.ErrLimit},
		{coaster(), 3, 4, span(full-77207999, full-77207999), impl.ErrLimit},
		// The first error decides: too much behind the first segment and too little behind the fourth
		// one, too little behind the first segment and too much behind the second one, and both at once.
		{coaster(), 0, 4, span(0, full), impl.ErrLimit}, {coaster(), 5, 2, span(0, full), impl.ErrState}, {wide, 0, 3, span(0, full), impl.ErrState},
		{wide, 0, 1, span(7803880000, full), impl.ErrLimit}, {wide, 2, 2, span(1000, full), impl.ErrState}, {wide, 1, 3, span(196121000, full), impl.ErrState},
	} {
		checkAlong(t, c.l, c.from, c.count, c.e, nil, c.code)
	}
	// One less or one more, and there is no error.
	for _, c := range []struct {
		from, count int64
		e, last     impl.Interval
	}{
		{1, 1, span(79048000, 79048000), span(0, 0)}, {0, 4, span(63676000, 63676000), span(0, 3720000)}, {5, 1, span(1080000, 1080000), span(0, 360000)},
		{0, 1, span(full-117272000, full-117272000), span(full-1600000, full)}, {5, 2, span(full-116552000, full-116552000), span(full-1960000, full)},
		{3, 4, span(full-77208000, full-77208000), span(full-2080000, full)},
	} {
		list, code := impl.EnergyAlong(coaster(), c.from, c.count, c.e)
		if code != impl.ErrNone || int64(len(list)) != c.count || list[c.count-1] != c.last {
			t.Errorf("EnergyAlong(coaster, %d, %d, %v) = %v, %d; want %v at the end", c.from, c.count, c.e, list, code, c.last)
		}
	}
}

func TestNeedsOfRuns(t *testing.T) {
	for _, c := range []struct{ from, count, want int64 }{
		{0, 0, 0}, {1, 0, 0}, {5, 0, 0},
		// The fall at the beginning needs nothing, and gives enough for the next two segments.
		{0, 1, 0}, {0, 2, 0}, {0, 3, 0}, {4, 1, 0}, {4, 2, 0},
		// The segment at the end of the run decides, and then one in its middle.
		{0, 4, 63676000}, {0, 5, 63676000}, {0, 6, 63676000}, {0, 9, 63676000},
		{1, 1, 79048000}, {1, 2, 81048000}, {1, 3, 179348000}, {1, 4, 179348000}, {1, 8, 179348000}, {3, 1, 98300000}, {3, 6, 98300000},
		// Over the last segment to the first one.
		{5, 1, 1080000}, {5, 2, 1080000}, {5, 4, 1080000}, {5, 5, 64756000}, {5, 6, 64756000}, {4, 5, 0}, {4, 6, 5920000},
		// More than once around the circuit, where each lap needs 5920000.
		{0, 10, 69596000}, {0, 12, 69596000}, {0, 15, 69596000}, {0, 16, 75516000}, {0, 22, 81436000}, {0, impl.MaxSegments, 81436000},
		{1, 9, 185268000}, {1, impl.MaxSegments, 197108000},
	} {
		checkNeeded(t, coaster(), c.from, c.count, c.want, impl.ErrNone)
	}
	checkNeeded(t, flat(impl.MaxSegments), 0, impl.MaxSegments, 23*200000+100000, impl.ErrNone)
	checkNeeded(t, flat(impl.MaxSegments), 23, 2, 300000, impl.ErrNone)
	checkNeeded(t, flat(3), 2, impl.MaxSegments, 8*500000, impl.ErrNone)
}

// TestNeedsAtTheLimit has needs of the greatest energy. Changes are even, so that the next greater
// need is two beyond it.
func TestNeedsAtTheLimit(t *testing.T) {
	checkNeeded(t, rough(1, impl.MaxForce-1), 0, 3, full-2, impl.ErrNone)
	checkNeeded(t, rough(1, impl.MaxForce), 0, 3, full, impl.ErrNone)
	checkNeeded(t, rough(3, 6667), 0, 3, 0, impl.ErrLimit)
	checkNeeded(t, rough(3, 6667), 0, 2, full-40000, impl.ErrNone)
	checkNeeded(t, rough(1, impl.MaxForce), 1, 3, full, impl.ErrNone)
	checkNeeded(t, rough(1, impl.MaxForce), 0, 4, 0, impl.ErrLimit)
	checkNeeded(t, rough(3, 6667), 2, 3, 0, impl.ErrLimit)
	// The station needs the most, before a fall and a climb that is as high.
	need := circuit(append(rough(1, impl.MaxForce).Segments, slope(20000, -5000, span(0, 0)), slope(20000, 5000, span(0, 0)), resisting(station(1), span(0, 0)))...)
	checkNeeded(t, need, 0, 4, full, impl.ErrNone)
	checkNeeded(t, need, 0, 6, full, impl.ErrNone)
	need.Segments[2].Length++
	checkNeeded(t, need, 0, 4, 0, impl.ErrLimit)
	checkNeeded(t, need, 0, 6, 0, impl.ErrLimit)
	steep := greatest()
	for i := range steep.Segments {
		steep.Segments[i].Resist = span(0, impl.MaxForce)
	}
	checkNeeded(t, steep, 0, 1, 9961200000, impl.ErrNone)
	checkNeeded(t, steep, 1, 1, 6038800000, impl.ErrNone)
	checkNeeded(t, steep, 0, 2, 0, impl.ErrLimit)
	checkNeeded(t, steep, 0, impl.MaxSegments, 0, impl.ErrLimit)
}

// TestNeedsBeyondTheLimitOnTheWay has trains that have more than the greatest energy behind a
// segment of the run, which EnergyAlong reports, but which the need does not mind.
func TestNeedsBeyondTheLimitOnTheWay(t *testing.T) {
	checkNeeded(t, valley(), 0, 6, 0, impl.ErrNone)
	checkNeeded(t, valley(), 0, 12, 240000000, impl.ErrNone)
	checkNeeded(t, valley(), 0, 13, 240200000, impl.ErrNone)
	checkAlong(t, valley(), 0, 13, span(240200000, 240200000), nil, impl.ErrLimit)
	checkAlong(t, valley(), 0, 5, span(240200000, 240200000), nil, impl.ErrLimit)
	list, code := impl.EnergyAlong(valley(), 0, 4, span(240200000, 240200000))
	if len(list) != 4 || code != impl.ErrNone {
		t.Errorf("EnergyAlong of four segments = %v, %d", list, code)
	}
	// Here only the upper bound becomes too great, behind the fall.
	tired := circuit(slope(125000, 0, span(0, impl.MaxForce)), slope(125000, 0, span(0, impl.MaxForce)), slope(9806, -2, span(0, 1)), slope(9806, 2, span(0, 1)), station(1))
	checkNeeded(t, tired, 0, 2, full, impl.ErrNone)
	checkNeeded(t, tired, 0, 3, full, impl.ErrNone)
	checkNeeded(t, tired, 0, 4, 0, impl.ErrLimit)
	checkNeeded(t, tired, 2, 2, 39224, impl.ErrNone)
	checkAlong(t, tired, 0, 2, span(full, full), []impl.Interval{span(5000000000, full), span(0, full)}, impl.ErrNone)
	checkAlong(t, tired, 0, 3, span(full, full), nil, impl.ErrLimit)
}

// isEnough reports whether a train with the energy n surely passes all segments of a run.
func isEnough(l impl.Layout, from int64, count int64, n int64) bool {
	for i := range count {
		n += changeBy(l.Segments[(from+i)%int64(len(l.Segments))]).Low
		if n < 0 {
			return false
		}
	}
	return true
}

// TestTrainsPassWithTheNeedAndNotWithLess checks promise 6 for each run on several circuits.
func TestTrainsPassWithTheNeedAndNotWithLess(t *testing.T) {
	for _, l := range coastedLayouts() {
		for from := range int64(len(l.Segments)) {
			before := int64(0)
			for count := range int64(impl.MaxSegments + 1) {
				n, code := impl.EnergyNeeded(l, from, count)
				if code == impl.ErrLimit {
					if n != 0 || isEnough(l, from, count, full) {
						t.Errorf("EnergyNeeded(%v, %d, %d) = %d, %d, but %d is enough", l, from, count, n, code, full)
					}
					continue
				}
				if code != impl.ErrNone || n < before || n > full || !isEnough(l, from, count, n) || n > 0 && isEnough(l, from, count, n-1) {
					t.Errorf("EnergyNeeded(%v, %d, %d) = %d, %d, behind %d", l, from, count, n, code, before)
				}
				checkCoastingWithTheNeed(t, l, from, count, n)
				before = n
			}
		}
	}
}

// checkCoastingWithTheNeed checks a need against EnergyAlong, which may report too much energy on
// the way, but only with less than the need too little.
func checkCoastingWithTheNeed(t *testing.T, l impl.Layout, from int64, count int64, need int64) {
	t.Helper()
	if list, code := impl.EnergyAlong(l, from, count, span(need, need)); code != impl.ErrLimit && (code != impl.ErrNone || int64(len(list)) != count) {
		t.Errorf("EnergyAlong(%v, %d, %d) with the need %d = %v, %d", l, from, count, need, list, code)
	}
	if need == 0 {
		return
	}
	if list, code := impl.EnergyAlong(l, from, count, span(need-1, need-1)); len(list) != 0 || code != impl.ErrState && code != impl.ErrLimit {
		t.Errorf("EnergyAlong(%v, %d, %d) with less than the need %d = %v, %d", l, from, count, need, list, code)
	}
}

// checkNoRun checks what both functions of runs return for a run that there is not: code is
// ErrInvalid if the layout is not valid, and ErrRange otherwise.
func checkNoRun(t *testing.T, l impl.Layout, from int64, count int64, code int64) {
	t.Helper()
	checkNeeded(t, l, from, count, 0, code)
	// The first of these energies is too little for most segments, and the last one too much.
	for _, e := range []impl.Interval{span(0, 0), span(400000000, 500000000), span(full, full)} {
		checkAlong(t, l, from, count, e, nil, code)
	}
	for _, e := range notEnergies() {
		checkAlong(t, l, from, count, e, nil, impl.ErrInvalid)
	}
}

func TestRunsOutsideOfTheLayout(t *testing.T) {
	counts := []int64{-1, -2, impl.MaxSegments + 1, impl.MaxSegments + 2, math.MaxInt64, math.MaxInt64 - 5, math.MinInt64}
	for _, l := range []impl.Layout{coaster(), flat(3), flat(impl.MaxSegments), valley()} {
		size := int64(len(l.Segments))
		for _, from := range append([]int64{size, size + 1, 2 * size}, far...) {
			for _, count := range append([]int64{0, 1, 3, impl.MaxSegments}, counts...) {
				checkNoRun(t, l, from, count, impl.ErrRange)
			}
		}
		for _, from := range []int64{0, 1, size - 1} {
			for _, count := range counts {
				checkNoRun(t, l, from, count, impl.ErrRange)
			}
			checkNeeded(t, l, from, 0, 0, impl.ErrNone)
			if _, code := impl.EnergyNeeded(l, from, impl.MaxSegments); code != impl.ErrNone {
				t.Errorf("EnergyNeeded(%v, %d, MaxSegments) has the error %d", l, from, code)
			}
		}
	}
}

func TestRunsOnInvalidLayouts(t *testing.T) {
	layouts := brokenLayouts()
	for _, x := range brokenSegments() {
		for i := range 3 {
			l := coaster()
			l.Segments[2*i] = x
			layouts = append(layouts, l)
		}
	}
	for _, l := range layouts {
		for _, from := range []int64{0, 1, -1, 2, 3, 6, impl.MaxSegments, math.MaxInt64, math.MinInt64} {
			for _, count := range []int64{0, 1, -1, impl.MaxSegments, impl.MaxSegments + 1, math.MaxInt64, math.MinInt64} {
				checkNoRun(t, l, from, count, impl.ErrInvalid)
			}
		}
	}
}

func TestEnergiesOfRunsAreEnergies(t *testing.T) {
	for _, e := range notEnergies() {
		for _, count := range []int64{0, 1, 6, impl.MaxSegments} {
			for from := range int64(6) {
				checkAlong(t, coaster(), from, count, e, nil, impl.ErrInvalid)
			}
		}
	}
}

func TestArgumentsOfRunsAreNotChanged(t *testing.T) {
	segments := append(coaster().Segments, plain(77, 7), plain(78, 8))
	kept := slices.Clone(segments)
	l, e := circuit(segments[:6]...), span(400000000, 410000000)
	for from := range int64(6) {
		for count := range int64(impl.MaxSegments + 1) {
			for range 2 {
				// A result that shared memory with an argument, or with one from before, would change it.
				list, _ := impl.EnergyAlong(l, from, count, e)
				for i := range list[:cap(list)] {
					list[:cap(list)][i] = span(-5, -5)
				}
				impl.EnergyNeeded(l, from, count)
			}
		}
	}
	if !slices.Equal(segments, kept) {
		t.Errorf("the segments became %v", segments)
	}
	// The sums of one call do not go on in the next one.
	for range 2 {
		checkAlong(t, l, 0, 2, e, []impl.Interval{span(515672000, 527272000), span(436624000, 448224000)}, impl.ErrNone)
		checkNeeded(t, l, 0, 4, 63676000, impl.ErrNone)
	}
}
