package tests

import (
	"math"
	"slices"
	"testing"

	"loop.example/g00916/impl"
)

// forced returns a segment of a kind with a resistance and a force; a plain one has no force.
func forced(kind int64, length int64, rise int64, resist impl.Interval, force impl.Interval) impl.Segment {
	if kind == impl.SegmentPlain {
		force = span(0, 0)
	}
	return impl.Segment{Kind: kind, Length: length, Rise: rise, Resist: resist, Force: force}
}

func launch(length int64, rise int64, resist impl.Interval, force impl.Interval) impl.Segment {
	return forced(impl.SegmentLaunch, length, rise, resist, force)
}

func lift(length int64, rise int64, resist impl.Interval, force impl.Interval) impl.Segment {
	return forced(impl.SegmentLift, length, rise, resist, force)
}

// asAllKinds returns the segments of all five kinds that are like one.
func asAllKinds(x impl.Segment) []impl.Segment { return append(others(x), brakesOf(x)...) }

// pushBy returns what is added to the energy on a segment that is on, by the definition; a lift has
// an energy of its own instead.
func pushBy(x impl.Segment) impl.Interval {
	change := changeBy(x)
	switch x.Kind {
	case impl.SegmentLaunch:
		return span(change.Low+2*x.Force.Low*x.Length, change.High+2*x.Force.High*x.Length)
	case impl.SegmentBrake, impl.SegmentStation:
		return span(change.Low-2*x.Force.High*x.Length, change.High-2*x.Force.Low*x.Length)
	default:
		return change
	}
}

// errorBy returns the error of an energy behind a segment, by the definition.
func errorBy(e impl.Interval) int64 {
	if e.Low < 0 {
		return impl.ErrState
	}
	if e.High > full {
		return impl.ErrLimit
	}
	return impl.ErrNone
}

// activeBy returns the energy behind a segment that is on, by the definition, and its error.
func activeBy(x impl.Segment, e impl.Interval) (impl.Interval, int64) {
	push := pushBy(x)
	after := span(e.Low+push.Low, e.High+push.High)
	if x.Kind == impl.SegmentLift {
		after = span(x.Force.Low*x.Force.Low, x.Force.High*x.Force.High)
	}
	code := errorBy(after)
	if code != impl.ErrNone {
		return span(0, 0), code
	}
	return after, code
}

// activeSegments are segments of all five kinds, with rises below 0, of 0 and above 0, and with
// forces and resistances whose bounds are equal and unequal, small and great.
func activeSegments() []impl.Segment {
	var list []impl.Segment
	for _, way := range [][2]int64{{1, 0}, {1, 1}, {1, -1}, {10, 0}, {9807, -1}, {20000, 300}, {30000, -10000}, {200000, 100000}, {200000, -100000}} {
		for _, resist := range []impl.Interval{only(0), span(0, 1), only(3), span(50, 100), only(impl.MaxForce), span(0, impl.MaxForce)} {
			for _, force := range []impl.Interval{only(1), span(1, 2), only(9806), span(5000, 6000), only(impl.MaxForce), span(1, impl.MaxForce)} {
				list = append(list, asAllKinds(brake(way[0], way[1], resist, force))...)
			}
		}
	}
	return list
}

// loop is a level circuit with all five kinds, whose changes are small. The comments are what is
// added with the device off, and with the device on.
func loop() impl.Layout {
	return circuit(
		launch(2, 0, span(1, 3), span(4, 5)),                      // -12 to -4, 4 to 16
		slope(1, 0, span(0, 5)),                                   // -10 to 0
		lift(3, 0, only(2), span(3, 6)),                           // -12, and an energy of 9 to 36
		brake(1, 0, span(0, 1), span(6, 7)),                       // -2 to 0, -16 to -12
		launch(5, 0, only(0), only(2)),                            // 0, 20
		brakesOf(brake(4, 0, only(1), span(1, 2)))[1],             // -8, -24 to -16
		slope(2, 0, only(1)),                                      // -4
		forced(impl.SegmentStation, 3, 0, span(0, 2), span(1, 3)), // -12 to 0, -30 to -6
	)
}

// devicesOf returns all lists of devices of a layout, by the definition.
func devicesOf(l impl.Layout) [][]int64 {
	lists := [][]int64{nil}
	for i, x := range l.Segments {
		if x.Kind == impl.SegmentPlain {
			continue
		}
		for _, on := range lists {
			lists = append(lists, append(slices.Clone(on), int64(i)))
		}
	}
	return lists
}

func checkActive(t *testing.T, x impl.Segment, e impl.Interval, want impl.Interval, code int64) {
	t.Helper()
	if got, c := impl.ActiveAfter(x, e); got != want || c != code {
		t.Errorf("ActiveAfter(%v, %v) = %v, %d; want %v, %d", x, e, got, c, want, code)
	}
}

func checkDevices(t *testing.T, l impl.Layout, on []int64, want bool) {
	t.Helper()
	if got := impl.AreDevices(l, on); got != want {
		t.Errorf("AreDevices(%v, %v) = %v", l, on, got)
	}
}

func checkActiveAlong(t *testing.T, l impl.Layout, from int64, count int64, e impl.Interval, on []int64, want []impl.Interval, code int64) {
	t.Helper()
	if got, c := impl.ActiveAlong(l, from, count, e, on); !slices.Equal(got, want) || c != code {
		t.Errorf("ActiveAlong(%v, %d, %d, %v, %v) = %v, %d; want %v, %d", l, from, count, e, on, got, c, want, code)
	}
}

func checkDoubt(t *testing.T, l impl.Layout, from int64, count int64, e impl.Interval, on []int64, want int64, code int64) {
	t.Helper()
	if got, c := impl.FirstDoubt(l, from, count, e, on); got != want || c != code {
		t.Errorf("FirstDoubt(%v, %d, %d, %v, %v) = %d, %d; want %d, %d", l, from, count, e, on, got, c, want, code)
	}
}

func checkForce(t *testing.T, x impl.Segment, e impl.Interval, target int64, want int64, code int64) {
	t.Helper()
	if got, c := impl.LaunchForce(x, e, target); got != want || c != code {
		t.Errorf("LaunchForce(%v, %v, %d) = %d, %d; want %d, %d", x, e, target, got, c, want, code)
	}
}

func checkTurn(t *testing.T, x impl.Segment, e impl.Interval, want impl.Interval, code int64) {
	t.Helper()
	if got, c := impl.TurnDistance(x, e); got != want || c != code {
		t.Errorf("TurnDistance(%v, %v) = %v, %d; want %v, %d", x, e, got, c, want, code)
	}
}

func checkTime(t *testing.T, x impl.Segment, want impl.Interval, code int64) {
	t.Helper()
	if got, c := impl.LiftTime(x); got != want || c != code {
		t.Errorf("LiftTime(%v) = %v, %d; want %v, %d", x, got, c, want, code)
	}
}

func TestEnergiesBehindLaunches(t *testing.T) {
	uneven := launch(10, 0, span(3, 7), span(2, 5))  // -100 to 40
	strong := launch(10, 0, span(3, 7), span(8, 10)) // 20 to 140
	even := launch(10, 0, only(3), only(5))          // 40
	up := launch(10, 1, span(3, 7), span(2, 5))      // -19712 to -19572
	down := launch(10, -1, span(3, 7), span(2, 5))   // 19512 to 19652
	for _, c := range []struct {
		x       impl.Segment
		e, want impl.Interval
		code    int64
	}{
		// The lower bound is -1, 0 and 1.
		{uneven, only(99), span(0, 0), impl.ErrState}, {uneven, only(100), span(0, 140), impl.ErrNone}, {uneven, only(101), span(1, 141), impl.ErrNone}, {uneven, span(99, 100), span(0, 0), impl.ErrState},
		{uneven, span(100, 200), span(0, 240), impl.ErrNone}, {uneven, only(0), span(0, 0), impl.ErrState}, {up, only(19711), span(0, 0), impl.ErrState}, {up, only(19712), span(0, 140), impl.ErrNone},
		{up, only(19713), span(1, 141), impl.ErrNone}, {up, span(19712, full), span(0, full-19572), impl.ErrNone}, {strong, only(0), span(20, 140), impl.ErrNone}, {even, only(0), only(40), impl.ErrNone}, {even, only(1), only(41), impl.ErrNone},
		{launch(10, 0, only(5), only(4)), only(19), span(0, 0), impl.ErrState}, {launch(10, 0, only(5), only(4)), only(20), only(0), impl.ErrNone}, {launch(10, 0, only(5), only(4)), only(21), only(1), impl.ErrNone},
		// The upper bound is one below MaxEnergy, MaxEnergy and one beyond it.
		{uneven, span(100, full-41), span(0, full-1), impl.ErrNone}, {uneven, span(100, full-40), span(0, full), impl.ErrNone}, {uneven, span(100, full-39), span(0, 0), impl.ErrLimit},
		{even, only(full - 41), only(full - 1), impl.ErrNone}, {even, only(full - 40), only(full), impl.ErrNone}, {even, only(full - 39), span(0, 0), impl.ErrLimit}, {even, only(full), span(0, 0), impl.ErrLimit},
		{down, only(0), span(19512, 19652), impl.ErrNone}, {down, span(0, full-19652), span(19512, full), impl.ErrNone}, {down, span(0, full-19651), span(0, 0), impl.ErrLimit}, {uneven, span(100, full), span(0, 0), impl.ErrLimit},
		// Both errors at once.
		{uneven, span(99, full), span(0, 0), impl.ErrState}, {uneven, span(0, full), span(0, 0), impl.ErrState}, {uneven, span(99, full-39), span(0, 0), impl.ErrState}, {uneven, span(99, full-40), span(0, 0), impl.ErrState},
		{launch(20000, 0, span(0, 100), span(5000, 6000)), span(1000000, 2000000), span(197000000, 242000000), impl.ErrNone},
		{launch(200000, -100000, only(0), only(impl.MaxForce)), only(0), only(9961200000), impl.ErrNone}, {launch(200000, -100000, only(0), only(impl.MaxForce)), only(38800001), span(0, 0), impl.ErrLimit},
	} {
		checkActive(t, c.x, c.e, c.want, c.code)
	}
}

// TestEnergiesBehindLifts checks that neither the energy before a lift nor its length, its rise and
// its resistance matter.
func TestEnergiesBehindLifts(t *testing.T) {
	for _, way := range [][2]int64{{1, 0}, {1, 1}, {1, -1}, {20000, 10000}, {200000, 100000}, {200000, -100000}} {
		for _, resist := range []impl.Interval{only(0), span(0, 100), only(impl.MaxForce), span(0, impl.MaxForce)} {
			for _, e := range []impl.Interval{only(0), only(1), span(0, full), only(full), span(4000000, 9000000), span(5, full)} {
				for _, c := range []struct{ force, want impl.Interval }{
					{only(1), only(1)}, {span(1, 2), span(1, 4)}, {span(2000, 3000), span(4000000, 9000000)}, {only(3000), only(9000000)}, {span(1, impl.MaxForce), span(1, 400000000)}, {only(impl.MaxForce), only(400000000)},
				} {
					checkActive(t, lift(way[0], way[1], resist, c.force), e, c.want, impl.ErrNone)
				}
			}
		}
	}
}

func TestEnergiesBehindBrakes(t *testing.T) {
	uneven := brake(10, 0, span(3, 7), span(2, 5))   // -240 to -100
	even := brake(10, 0, only(3), only(5))           // -160
	up := brake(10, 1, span(3, 7), span(2, 5))       // -19852 to -19712
	down := brake(10, -1, span(3, 7), span(2, 5))    // 19372 to 19512
	balanced := brake(9806, -1, only(0), span(1, 2)) // -19612 to 0
	for _, c := range []struct {
		x       impl.Segment
		e, want impl.Interval
		code    int64
	}{
		// The lower bound is -1, 0 and 1.
		{uneven, only(239), span(0, 0), impl.ErrState}, {uneven, only(240), span(0, 140), impl.ErrNone}, {uneven, only(241), span(1, 141), impl.ErrNone}, {uneven, span(239, 240), span(0, 0), impl.ErrState},
		{uneven, span(240, 300), span(0, 200), impl.ErrNone}, {uneven, only(0), span(0, 0), impl.ErrState}, {uneven, only(100), span(0, 0), impl.ErrState}, {even, only(159), span(0, 0), impl.ErrState},
		{even, only(160), only(0), impl.ErrNone}, {even, only(161), only(1), impl.ErrNone}, {up, only(19851), span(0, 0), impl.ErrState}, {up, only(19852), span(0, 140), impl.ErrNone}, {up, only(19853), span(1, 141), impl.ErrNone},
		{down, only(0), span(19372, 19512), impl.ErrNone}, {down, only(1), span(19373, 19513), impl.ErrNone}, {balanced, only(19611), span(0, 0), impl.ErrState}, {balanced, only(19612), span(0, 19612), impl.ErrNone},
		// The upper bound is one below MaxEnergy, MaxEnergy and one beyond it. Only on a fall is there
		// more behind a brake than before it.
		{down, span(0, full-19513), span(19372, full-1), impl.ErrNone}, {down, span(0, full-19512), span(19372, full), impl.ErrNone}, {down, span(0, full-19511), span(0, 0), impl.ErrLimit}, {down, only(full), span(0, 0), impl.ErrLimit},
		{uneven, only(full), span(full-240, full-100), impl.ErrNone}, {uneven, span(240, full), span(0, full-100), impl.ErrNone}, {balanced, only(full), span(full-19612, full), impl.ErrNone}, {balanced, span(19612, full), span(0, full), impl.ErrNone},
		// Both errors at once.
		{brake(9805, -1, only(0), span(1, 2)), span(0, full), span(0, 0), impl.ErrState}, {brake(9805, -1, only(0), span(1, 2)), span(19608, full-1), span(0, 0), impl.ErrLimit}, {brake(9805, -1, only(0), span(1, 2)), span(19607, full-1), span(0, 0), impl.ErrState},
		{brake(9805, -1, only(0), span(1, 2)), span(19608, full-2), span(0, full), impl.ErrNone}, {brake(20000, 0, span(0, 100), span(5000, 6000)), span(244000000, 250000000), span(0, 50000000), impl.ErrNone},
	} {
		for _, x := range brakesOf(c.x) {
			checkActive(t, x, c.e, c.want, c.code)
		}
	}
}

func TestEnergiesBehindPlainSegments(t *testing.T) {
	level, hill, drop := slope(10, 0, span(3, 7)), slope(10, 1, span(3, 7)), slope(10, -1, only(7)) // -140 to -60, -19752 to -19672, 19472
	for _, c := range []struct {
		x       impl.Segment
		e, want impl.Interval
		code    int64
	}{
		{level, only(139), span(0, 0), impl.ErrState}, {level, only(140), span(0, 80), impl.ErrNone}, {level, only(141), span(1, 81), impl.ErrNone}, {level, only(0), span(0, 0), impl.ErrState}, {level, span(140, full), span(0, full-60), impl.ErrNone},
		{hill, only(19751), span(0, 0), impl.ErrState}, {hill, only(19752), span(0, 80), impl.ErrNone}, {hill, only(19753), span(1, 81), impl.ErrNone}, {hill, span(0, full), span(0, 0), impl.ErrState},
		{drop, only(0), only(19472), impl.ErrNone}, {drop, only(full - 19472), only(full), impl.ErrNone}, {drop, only(full - 19473), only(full - 1), impl.ErrNone}, {drop, only(full - 19471), span(0, 0), impl.ErrLimit}, {drop, span(0, full), span(0, 0), impl.ErrLimit},
		{slope(1, 0, only(0)), only(0), only(0), impl.ErrNone}, {slope(1, 0, only(0)), only(full), only(full), impl.ErrNone}, {slope(1, 0, only(0)), span(0, full), span(0, full), impl.ErrNone},
	} {
		checkActive(t, c.x, c.e, c.want, c.code)
	}
}

// TestActiveEnergiesByTheirDefinition has the intervals between all energies at the limits of a
// segment.
func TestActiveEnergiesByTheirDefinition(t *testing.T) {
	for _, x := range activeSegments() {
		push := pushBy(x)
		numbers := aroundEnergies(0, -push.Low, -push.High, full-push.High, full-push.Low, full)
		for i, low := range numbers {
			for _, high := range numbers[i:] {
				want, code := activeBy(x, span(low, high))
				checkActive(t, x, span(low, high), want, code)
			}
		}
		for _, e := range notEnergies() {
			checkActive(t, x, e, span(0, 0), impl.ErrInvalid)
		}
	}
}

// TestActiveTrainsOnPieces lets trains pass the pieces of a segment that is on, each with another
// value of its resistance and of its force.
func TestActiveTrainsOnPieces(t *testing.T) {
	for _, rise := range []int64{-3, -1, 0, 1, 3} {
		for kind, sign := range map[int64]int64{impl.SegmentLaunch: 1, impl.SegmentBrake: -1, impl.SegmentStation: -1, impl.SegmentPlain: 0} {
			least, most := int64(math.MaxInt64), int64(math.MinInt64)
			for bits := range 64 {
				energy := int64(100000)
				for piece := range 3 {
					r, f := []int64{4, 9}[bits>>piece&1], []int64{2, 30}[bits>>(piece+3)&1]
					energy += -2*impl.Gravity*rise - 2*r*5 + sign*2*f*5
				}
				least, most = min(least, energy), max(most, energy)
			}
			want := span(least, most)
			code := errorBy(want)
			if code != impl.ErrNone {
				want = span(0, 0)
			}
			checkActive(t, forced(kind, 3*5, 3*rise, span(4, 9), span(2, 30)), only(100000), want, code)
		}
	}
}

func TestInvalidActiveSegments(t *testing.T) {
	for _, b := range brokenSegments() {
		for _, x := range append(asAllKinds(b), b) {
			if impl.IsSegment(x) {
				continue
			}
			checkTime(t, x, span(0, 0), impl.ErrInvalid)
			for _, e := range append(notEnergies(), only(0), span(0, full), span(5, 7), only(full)) {
				checkActive(t, x, e, span(0, 0), impl.ErrInvalid)
				checkTurn(t, x, e, span(0, 0), impl.ErrInvalid)
				for _, target := range []int64{0, 1, full, -1, full + 1, math.MinInt64, math.MaxInt64} {
					checkForce(t, x, e, target, 0, impl.ErrInvalid)
				}
			}
		}
	}
}

func TestListsOfDevices(t *testing.T) {
	for _, on := range [][]int64{nil, {}, {0}, {2}, {3}, {4}, {5}, {7}, {0, 2}, {0, 7}, {2, 3, 4}, {0, 2, 3, 4, 5, 7}} {
		checkDevices(t, loop(), on, true)
	}
	for _, on := range [][]int64{
		// A plain segment, alone, first, in the middle and last.
		{1}, {6}, {0, 1}, {1, 2}, {0, 1, 2}, {5, 6}, {6, 7}, {0, 2, 3, 4, 5, 6, 7}, {0, 1, 2, 3, 4, 5, 6, 7},
		// An index twice, or out of order.
		{0, 0}, {7, 7}, {0, 2, 2}, {0, 0, 2}, {2, 0}, {7, 0}, {0, 3, 2}, {2, 0, 7}, {7, 5, 4, 3, 2, 0}, {0, 7, 2},
		// Indices of no segment.
		{-1}, {-1, 0}, {0, -1}, {math.MinInt64}, {math.MinInt64, 0}, {8}, {7, 8}, {0, 8}, {8, 9}, {24}, {math.MaxInt64}, {0, math.MaxInt64}, {-8}, {-5, 0},
	} {
		checkDevices(t, loop(), on, false)
		for _, count := range []int64{0, 1, 8} {
			checkActiveAlong(t, loop(), 0, count, only(1000), on, nil, impl.ErrRange)
			checkDoubt(t, loop(), 0, count, only(1000), on, 0, impl.ErrRange)
		}
	}
}

// TestEachListOfDevices has each list of up to four numbers around the indices of a circuit.
func TestEachListOfDevices(t *testing.T) {
	for _, l := range []impl.Layout{coaster(), hills(), flat(3), loop()} {
		size := int64(len(l.Segments))
		lists := [][]int64{nil}
		for range 4 {
			for _, list := range lists {
				for n := int64(-1); n <= size; n++ {
					lists = append(lists, append(slices.Clone(list), n))
				}
			}
		}
		for _, on := range lists {
			want := true
			for i, n := range on {
				want = want && n >= 0 && n < size && l.Segments[n].Kind != impl.SegmentPlain && (i == 0 || n > on[i-1])
			}
			checkDevices(t, l, on, want)
		}
	}
}

func TestDevicesOfInvalidLayouts(t *testing.T) {
	for _, l := range brokenLayouts() {
		for _, on := range [][]int64{nil, {}, {0}, {2}, {0, 2}, {1}, {-1}, {24}, {math.MaxInt64}} {
			checkDevices(t, l, on, false)
		}
	}
	// All segments of the longest circuit, and one more.
	long := circuit(slices.Repeat([]impl.Segment{device(impl.SegmentBrake, 10, 0)}, impl.MaxSegments-1)...)
	long.Segments = append(long.Segments, station(10))
	var on []int64
	for n := range int64(impl.MaxSegments) {
		checkDevices(t, long, on, true)
		on = append(on, n)
	}
	checkDevices(t, long, on, true)
	checkDevices(t, long, append(on, impl.MaxSegments), false)
}

func TestActiveEnergiesAlongRuns(t *testing.T) {
	for _, c := range []struct {
		from, count int64
		e           impl.Interval
		on          []int64
		want        []impl.Interval
	}{
		// All devices are off, and all of them are on.
		{0, 8, span(100, 110), nil, []impl.Interval{span(88, 106), span(78, 106), span(66, 94), span(64, 94), span(64, 94), span(56, 86), span(52, 82), span(40, 82)}},
		{0, 3, span(100, 110), []int64{0, 2, 3, 4, 5, 7}, []impl.Interval{span(104, 126), span(94, 126), span(9, 36)}},
		{3, 5, span(100, 110), []int64{0, 2, 3, 4, 5, 7}, []impl.Interval{span(84, 98), span(104, 118), span(80, 102), span(76, 98), span(46, 92)}},
		// One device is on.
		{0, 2, span(10, 20), []int64{0}, []impl.Interval{span(14, 36), span(4, 36)}}, {0, 5, span(22, 110), []int64{2}, []impl.Interval{span(10, 106), span(0, 106), span(9, 36), span(7, 36), span(7, 36)}},
		{3, 2, span(100, 110), []int64{3}, []impl.Interval{span(84, 98), span(84, 98)}}, {3, 2, span(100, 110), []int64{4}, []impl.Interval{span(98, 110), span(118, 130)}},
		{4, 3, span(100, 110), []int64{5}, []impl.Interval{span(100, 110), span(76, 94), span(72, 90)}}, {6, 2, span(100, 110), []int64{7}, []impl.Interval{span(96, 106), span(66, 100)}},
		// Devices that are not in the run make no difference.
		{3, 2, span(100, 110), []int64{0, 2, 5, 7}, []impl.Interval{span(98, 110), span(98, 110)}},
		// Around the end of the circuit.
		{7, 1, span(100, 110), []int64{7}, []impl.Interval{span(70, 104)}}, {7, 1, span(100, 110), []int64{0}, []impl.Interval{span(88, 110)}}, {7, 2, span(100, 110), []int64{0}, []impl.Interval{span(88, 110), span(92, 126)}},
		{7, 3, span(100, 110), []int64{7}, []impl.Interval{span(70, 104), span(58, 100), span(48, 100)}}, {6, 5, span(100, 110), []int64{0, 2, 7}, []impl.Interval{span(96, 106), span(66, 100), span(70, 116), span(60, 116), span(9, 36)}},
		{5, 4, span(100, 110), []int64{0, 5, 7}, []impl.Interval{span(76, 94), span(72, 90), span(42, 84), span(46, 100)}},
		// More than once around, with the same device each time.
		{0, 9, span(100, 110), []int64{0, 2, 4}, []impl.Interval{span(104, 126), span(94, 126), span(9, 36), span(7, 36), span(27, 56), span(19, 48), span(15, 44), span(3, 44), span(7, 60)}},
	} {
		checkActiveAlong(t, loop(), c.from, c.count, c.e, c.on, c.want, impl.ErrNone)
		checkDoubt(t, loop(), c.from, c.count, c.e, c.on, -1, impl.ErrNone)
	}
	// A run of no segment has no energies, and no doubt.
	for from := range int64(8) {
		for _, on := range [][]int64{nil, {0}, {0, 2, 3, 4, 5, 7}} {
			for _, e := range []impl.Interval{only(0), span(0, full), only(full)} {
				checkActiveAlong(t, loop(), from, 0, e, on, nil, impl.ErrNone)
				checkDoubt(t, loop(), from, 0, e, on, -1, impl.ErrNone)
			}
		}
	}
}

// activeBySteps returns what ActiveAlong and FirstDoubt have to return, segment by segment.
func activeBySteps(l impl.Layout, from int64, count int64, e impl.Interval, on []int64) ([]impl.Interval, int64, int64) {
	var list []impl.Interval
	segment := from
	for passed := range count {
		x := l.Segments[segment]
		after, code := activeBy(slope(x.Length, x.Rise, x.Resist), e)
		if slices.Contains(on, segment) {
			after, code = activeBy(x, e)
		}
		if code != impl.ErrNone {
			return nil, code, passed
		}
		list, e = append(list, after), after
		if segment++; segment == int64(len(l.Segments)) {
			segment = 0
		}
	}
	return list, impl.ErrNone, -1
}

// TestEachActiveRun has each run on several circuits with each list of devices.
func TestEachActiveRun(t *testing.T) {
	hot := ride()
	hot.Segments[0] = launch(20000, 10000, span(0, 100), span(19000, 20000))
	for _, l := range []impl.Layout{loop(), coaster(), ride(), hills(), hot, flat(3)} {
		for _, on := range devicesOf(l) {
			checkDevices(t, l, on, true)
			for from := range int64(len(l.Segments)) {
				for count := range int64(impl.MaxSegments + 1) {
					for _, e := range []impl.Interval{only(0), span(0, full), span(30, 31), span(100, 1000), span(400000000, 500000000), span(full-500, full-400), only(full)} {
						want, code, doubt := activeBySteps(l, from, count, e, on)
						checkActiveAlong(t, l, from, count, e, on, want, code)
						checkDoubt(t, l, from, count, e, on, doubt, impl.ErrNone)
					}
				}
			}
		}
	}
}

// TestRunsWithAllDevicesOff checks that trains coast then, as EnergyAlong says.
func TestRunsWithAllDevicesOff(t *testing.T) {
	for _, l := range append(coastedLayouts(), loop(), ride(), gentle()) {
		for from := range int64(len(l.Segments)) {
			for count := range int64(impl.MaxSegments + 1) {
				for _, e := range []impl.Interval{only(0), span(0, full), span(10000, 20000), span(80000000, 90000000), only(full / 2), only(full)} {
					want, code := impl.EnergyAlong(l, from, count, e)
					checkActiveAlong(t, l, from, count, e, nil, want, code)
					checkActiveAlong(t, l, from, count, e, []int64{}, want, code)
				}
			}
		}
	}
}

func TestFirstDoubts(t *testing.T) {
	all := []int64{0, 2, 3, 4, 5, 7}
	for _, c := range []struct {
		from, count int64
		e           impl.Interval
		on          []int64
		doubt, code int64
	}{
		// Too little energy for the first segment, with the device on and off.
		{1, 1, span(9, 100), nil, 0, impl.ErrState}, {1, 24, span(9, 100), all, 0, impl.ErrState}, {3, 1, only(15), all, 0, impl.ErrState}, {3, 1, only(1), nil, 0, impl.ErrState}, {0, 1, only(11), []int64{2}, 0, impl.ErrState},
		{2, 1, only(11), []int64{0}, 0, impl.ErrState}, {7, 1, only(29), []int64{7}, 0, impl.ErrState}, {7, 8, only(11), []int64{0}, 0, impl.ErrState},
		// For a segment in the middle.
		{0, 4, span(100, 110), all, 3, impl.ErrState}, {0, 24, span(100, 110), all, 3, impl.ErrState}, {0, 3, only(5), []int64{0}, 1, impl.ErrState}, {6, 4, only(33), []int64{7}, 1, impl.ErrState}, {6, 24, only(34), []int64{7}, 2, impl.ErrState},
		// For the last one.
		{0, 2, only(5), []int64{0}, 1, impl.ErrState}, {3, 5, span(53, 60), all, 4, impl.ErrState}, {6, 3, only(45), []int64{7}, 2, impl.ErrState},
		// Too much behind the first segment, one in the middle and the last one.
		{0, 1, only(full - 15), all, 0, impl.ErrLimit}, {0, 5, only(full), []int64{0}, 0, impl.ErrLimit}, {4, 1, only(full - 19), []int64{4}, 0, impl.ErrLimit}, {3, 4, only(full), []int64{4}, 1, impl.ErrLimit},
		{3, 2, only(full - 7), all, 1, impl.ErrLimit}, {3, 5, only(full - 7), all, 1, impl.ErrLimit}, {7, 2, only(full - 15), []int64{0}, 1, impl.ErrLimit}, {6, 3, only(full - 11), []int64{0}, 2, impl.ErrLimit},
		// Both in one run, the one before the other, and at one segment.
		{0, 24, span(0, full), all, 0, impl.ErrLimit}, {3, 8, span(16, full-7), all, 1, impl.ErrLimit}, {3, 2, span(15, full), all, 0, impl.ErrState}, {1, 4, span(21, full), []int64{4}, 1, impl.ErrState}, {0, 1, span(0, full), nil, 0, impl.ErrState},
	} {
		checkActiveAlong(t, loop(), c.from, c.count, c.e, c.on, nil, c.code)
		checkDoubt(t, loop(), c.from, c.count, c.e, c.on, c.doubt, impl.ErrNone)
		// Without the segment in doubt there is none.
		list, code := impl.ActiveAlong(loop(), c.from, c.doubt, c.e, c.on)
		if int64(len(list)) != c.doubt || code != impl.ErrNone {
			t.Errorf("ActiveAlong(loop, %d, %d, %v, %v) = %v, %d", c.from, c.doubt, c.e, c.on, list, code)
		}
		checkDoubt(t, loop(), c.from, c.doubt, c.e, c.on, -1, impl.ErrNone)
	}
	// One less or one more, and there is no doubt.
	for _, c := range []struct {
		from, count int64
		e           impl.Interval
		on          []int64
		last        impl.Interval
	}{
		{1, 1, span(10, 100), nil, span(0, 100)}, {3, 1, only(16), all, span(0, 4)}, {0, 1, only(12), []int64{2}, span(0, 8)}, {2, 1, only(12), []int64{0}, only(0)}, {7, 1, only(30), []int64{7}, span(0, 24)},
		{0, 2, only(6), []int64{0}, span(0, 22)}, {3, 5, span(54, 60), all, span(0, 42)}, {6, 3, only(46), []int64{7}, span(0, 32)}, {6, 2, only(34), []int64{7}, span(0, 24)},
		{0, 1, only(full - 16), all, span(full-12, full)}, {4, 1, only(full - 20), []int64{4}, only(full)}, {3, 2, only(full - 8), all, span(full-4, full)}, {7, 2, only(full - 16), []int64{0}, span(full-24, full)},
	} {
		list, code := impl.ActiveAlong(loop(), c.from, c.count, c.e, c.on)
		if code != impl.ErrNone || int64(len(list)) != c.count || list[c.count-1] != c.last {
			t.Errorf("ActiveAlong(loop, %d, %d, %v, %v) = %v, %d; want %v at the end", c.from, c.count, c.e, c.on, list, code, c.last)
		}
		checkDoubt(t, loop(), c.from, c.count, c.e, c.on, -1, impl.ErrNone)
	}
	// Runs of 24 segments without a doubt, thanks to the lift in each lap.
	calm := circuit(lift(9, 0, span(0, 5), span(20, 30)), slope(5, 0, span(1, 2)), brake(1, 0, span(0, 1), only(3)), station(1))
	for from := range int64(4) {
		checkDoubt(t, calm, from, impl.MaxSegments, span(300, 500), []int64{0, 2}, -1, impl.ErrNone)
	}
	checkDoubt(t, calm, 0, impl.MaxSegments, span(300, 500), []int64{2}, 3, impl.ErrNone)
}

// checkNoActiveRun checks what both functions of runs return for arguments with the error code, also
// with energies that are too little or too much for the run.
func checkNoActiveRun(t *testing.T, l impl.Layout, from int64, count int64, on []int64, code int64) {
	t.Helper()
	for _, e := range []impl.Interval{only(0), span(0, full), span(300, 400), only(full)} {
		checkActiveAlong(t, l, from, count, e, on, nil, code)
		checkDoubt(t, l, from, count, e, on, 0, code)
	}
	for _, e := range notEnergies() {
		checkActiveAlong(t, l, from, count, e, on, nil, impl.ErrInvalid)
		checkDoubt(t, l, from, count, e, on, 0, impl.ErrInvalid)
	}
}

func TestActiveRunsOutsideOfTheLayout(t *testing.T) {
	counts := []int64{-1, -2, impl.MaxSegments + 1, impl.MaxSegments + 2, math.MaxInt64, math.MinInt64}
	for _, on := range [][]int64{nil, {0, 2}, {1}, {2, 2}, {2, 0}, {-1}, {8}} {
		for _, from := range append([]int64{8, 9, 16}, far...) {
			for _, count := range append([]int64{0, 1, 8, impl.MaxSegments}, counts...) {
				checkNoActiveRun(t, loop(), from, count, on, impl.ErrRange)
			}
		}
		for _, count := range counts {
			for _, from := range []int64{0, 1, 7} {
				checkNoActiveRun(t, loop(), from, count, on, impl.ErrRange)
			}
		}
	}
	for _, on := range [][]int64{{1}, {2, 2}, {2, 0}, {-1}, {8}, {0, math.MaxInt64}, {math.MinInt64}} {
		for from := range int64(8) {
			for _, count := range []int64{0, 1, 8, impl.MaxSegments} {
				checkNoActiveRun(t, loop(), from, count, on, impl.ErrRange)
			}
		}
	}
}

func TestActiveRunsOnInvalidLayouts(t *testing.T) {
	layouts := brokenLayouts()
	for _, x := range brokenSegments() {
		for _, i := range []int{0, 3, 7} {
			l := loop()
			l.Segments[i] = x
			layouts = append(layouts, l)
		}
	}
	for _, l := range layouts {
		for _, on := range [][]int64{nil, {0}, {0, 2}, {1}, {2, 0}, {-1}, {24}} {
			checkDevices(t, l, on, false)
			for _, from := range []int64{0, 1, -1, 8, math.MaxInt64} {
				for _, count := range []int64{0, 1, -1, impl.MaxSegments + 1} {
					checkNoActiveRun(t, l, from, count, on, impl.ErrInvalid)
				}
			}
		}
	}
}

func TestForcesOfLaunches(t *testing.T) {
	// What e.Low + c lacks at the target, in steps of 20.
	level := launch(10, 0, span(3, 7), span(30, 40))          // -140 to -60
	up := launch(10, 1, span(3, 7), span(1000, 1500))         // -19752 to -19672
	down := launch(10, -1, span(3, 7), only(30))              // 19472 to 19552
	short := launch(1, 0, only(0), span(5, impl.MaxForce))    // 0
	strong := launch(200000, 0, only(0), only(impl.MaxForce)) // 0, in steps of 400000
	steep := launch(200000, 100000, only(impl.MaxForce), only(impl.MaxForce))
	for _, c := range []struct {
		x      impl.Segment
		e      impl.Interval
		target int64
		want   int64
		code   int64
	}{
		// Without any force, also by more than nothing; exactly; and missed by one.
		{level, only(140), 0, 0, impl.ErrNone}, {level, only(141), 0, 0, impl.ErrNone}, {level, only(500), 0, 0, impl.ErrNone}, {level, only(139), 0, 1, impl.ErrNone}, {level, only(200), 60, 0, impl.ErrNone}, {level, only(200), 59, 0, impl.ErrNone},
		{level, only(200), 61, 1, impl.ErrNone}, {level, only(200), 80, 1, impl.ErrNone}, {level, only(200), 81, 2, impl.ErrNone}, {level, only(200), 79, 1, impl.ErrNone}, {level, only(0), 0, 7, impl.ErrNone}, {level, only(0), 1, 8, impl.ErrNone},
		{level, only(1), 0, 7, impl.ErrNone}, {level, only(20), 0, 6, impl.ErrNone}, {level, only(19), 0, 7, impl.ErrNone}, {level, only(0), 20, 8, impl.ErrNone}, {level, only(0), 21, 9, impl.ErrNone}, {level, only(full), full - 140, 0, impl.ErrNone},
		{level, only(full), full - 139, 1, impl.ErrNone}, {level, only(full), full, 7, impl.ErrNone}, {level, only(full), 0, 0, impl.ErrNone},
		// Only the lower bound of the energy counts.
		{level, span(0, full), 0, 7, impl.ErrNone}, {level, span(140, full), 0, 0, impl.ErrNone}, {level, span(139, 140), 0, 1, impl.ErrNone}, {level, span(20, 30), 0, 6, impl.ErrNone},
		// Force.Low, one more, and more than Force.High.
		{level, only(0), 460, 30, impl.ErrNone}, {level, only(0), 459, 30, impl.ErrNone}, {level, only(0), 441, 30, impl.ErrNone}, {level, only(0), 440, 29, impl.ErrNone}, {level, only(0), 461, 0, impl.ErrNotFound}, {level, only(0), 480, 0, impl.ErrNotFound},
		{level, only(0), 660, 0, impl.ErrNotFound}, {level, only(0), 661, 0, impl.ErrNotFound}, {level, only(0), full, 0, impl.ErrNotFound}, {short, only(0), 10, 5, impl.ErrNone}, {short, only(0), 11, 0, impl.ErrNotFound}, {short, only(0), full, 0, impl.ErrNotFound},
		// Rises.
		{up, only(0), 0, 988, impl.ErrNone}, {up, only(12), 0, 987, impl.ErrNone}, {up, only(11), 0, 988, impl.ErrNone}, {up, only(0), 248, 1000, impl.ErrNone}, {up, only(0), 249, 0, impl.ErrNotFound}, {up, only(19752), 0, 0, impl.ErrNone},
		{down, only(0), 0, 0, impl.ErrNone}, {down, only(0), 19472, 0, impl.ErrNone}, {down, only(0), 19473, 1, impl.ErrNone}, {down, only(0), 19492, 1, impl.ErrNone}, {down, only(0), 20072, 30, impl.ErrNone}, {down, only(0), 20073, 0, impl.ErrNotFound},
		// Targets of 0 and of MaxEnergy.
		{short, only(0), 0, 0, impl.ErrNone}, {short, only(full), full, 0, impl.ErrNone}, {short, only(full - 1), full, 1, impl.ErrNone}, {short, only(full - 10), full, 5, impl.ErrNone}, {short, only(full - 11), full, 0, impl.ErrNotFound},
		{strong, only(full - 8000000000), full, 20000, impl.ErrNone}, {strong, only(full - 8000000001), full, 0, impl.ErrNotFound}, {strong, only(full - 400000), full, 1, impl.ErrNone}, {strong, only(full - 400001), full, 2, impl.ErrNone}, {strong, only(0), full, 0, impl.ErrNotFound},
		{steep, only(0), full, 0, impl.ErrNotFound}, {steep, only(1961200000), 0, 20000, impl.ErrNone}, {steep, only(1961199999), 0, 0, impl.ErrNotFound}, {steep, only(full), full, 0, impl.ErrNotFound},
		// Targets outside of the range.
		{level, only(0), -1, 0, impl.ErrRange}, {level, only(full), -1, 0, impl.ErrRange}, {level, only(full), full + 1, 0, impl.ErrRange}, {level, only(0), full + 1, 0, impl.ErrRange}, {level, only(0), math.MinInt64, 0, impl.ErrRange}, {level, only(0), math.MaxInt64, 0, impl.ErrRange},
		{strong, only(full), full + 1, 0, impl.ErrRange}, {down, only(0), -1, 0, impl.ErrRange}, {level, span(0, full), -140, 0, impl.ErrRange},
	} {
		checkForce(t, c.x, c.e, c.target, c.want, c.code)
	}
}

// TestSegmentsWithoutLaunches has the other four kinds, with energies that reach the target anyway
// and such that do not.
func TestSegmentsWithoutLaunches(t *testing.T) {
	for _, like := range []impl.Segment{brake(10, 0, span(3, 7), span(30, 40)), brake(10, -1, span(3, 7), only(30)), brake(200000, 0, only(0), only(impl.MaxForce))} {
		for _, x := range asAllKinds(like) {
			for _, e := range []impl.Interval{only(0), only(200), span(0, full), only(full)} {
				if x.Kind != impl.SegmentLaunch {
					for _, target := range []int64{0, 1, 60, 1000, full} {
						checkForce(t, x, e, target, 0, impl.ErrState)
					}
				}
				for _, target := range []int64{-1, full + 1, math.MinInt64, math.MaxInt64} {
					checkForce(t, x, e, target, 0, impl.ErrRange)
				}
			}
			for _, e := range notEnergies() {
				for _, target := range []int64{0, 1, full, -1, full + 1} {
					checkForce(t, x, e, target, 0, impl.ErrInvalid)
				}
			}
		}
	}
}

// TestLeastForcesReachTheirTargets checks the first half of promise 8: the target is reached with the
// least force, and not with one less.
func TestLeastForcesReachTheirTargets(t *testing.T) {
	for _, x := range activeSegments() {
		if x.Kind != impl.SegmentLaunch {
			continue
		}
		for _, low := range []int64{0, 1, 139, 140, 19612, 1000000, full / 3, full - 1, full} {
			behind := low + changeBy(x).Low
			step := 2 * x.Length
			for _, target := range aroundEnergies(0, behind, behind+step, behind+2*step-1, behind+x.Force.Low*step, behind+(x.Force.Low+1)*step, full) {
				checkLeastForce(t, x, span(low, full), target)
				checkLeastForce(t, x, only(low), target)
			}
		}
	}
}

func checkLeastForce(t *testing.T, x impl.Segment, e impl.Interval, target int64) {
	t.Helper()
	behind := func(f int64) int64 { return e.Low + changeBy(x).Low + 2*f*x.Length }
	f, code := impl.LaunchForce(x, e, target)
	if code == impl.ErrNotFound {
		if f != 0 || behind(x.Force.Low) >= target {
			t.Errorf("LaunchForce(%v, %v, %d) = %d, %d, but Force.Low is enough", x, e, target, f, code)
		}
		return
	}
	if code != impl.ErrNone || f < 0 || f > x.Force.Low || behind(f) < target || f > 0 && behind(f-1) >= target {
		t.Errorf("LaunchForce(%v, %v, %d) = %d, %d", x, e, target, f, code)
		return
	}
	// A launch with exactly this force leads to the target, unless there is too much energy.
	if f == 0 {
		return
	}
	x.Force = only(f)
	if after, code := impl.ActiveAfter(x, e); code != impl.ErrLimit && (code != impl.ErrNone || after.Low < target) {
		t.Errorf("ActiveAfter(%v, %v) = %v, %d; the target is %d", x, e, after, code, target)
	}
}

func TestDistancesToTheTurn(t *testing.T) {
	even := slope(10, 0, only(5))                // a loss of 100
	uneven := slope(10, 0, span(5, 15))          // 100 to 300
	hill := slope(20000, 10000, span(0, 97))     // 196120000 to 200000000
	least := slope(9807, -1, only(1))            // 2
	wide := slope(9807, -1, span(1, 3))          // 2 to 39230
	climb := slope(7, 3, span(1, 5))             // 58850 to 58906
	long := slope(200000, 100000, only(97))      // 2000000000
	steep := slope(200000, 100000, only(20000))  // 9961200000
	unsure := slope(200000, 100000, span(0, 97)) // 1961200000 to 2000000000
	for _, c := range []struct {
		x       impl.Segment
		e, want impl.Interval
	}{
		// Distances that are exact, and such that are rounded down or up, or both.
		{even, only(0), only(0)}, {even, only(50), only(5)}, {even, only(49), span(4, 5)}, {even, only(51), span(5, 6)}, {even, span(50, 60), span(5, 6)}, {even, span(50, 59), span(5, 6)}, {even, span(51, 60), span(5, 6)},
		{even, span(0, 1), span(0, 1)}, {even, only(1), span(0, 1)}, {even, only(9), span(0, 1)}, {even, only(10), only(1)}, {even, only(11), span(1, 2)}, {even, only(90), only(9)}, {even, only(89), span(8, 9)},
		// e.High + C is -1.
		{even, only(99), span(9, 10)}, {even, span(0, 99), span(0, 10)}, {even, span(90, 99), span(9, 10)}, {uneven, only(99), span(3, 10)}, {hill, only(196119999), span(19611, 20000)}, {hill, span(0, 196119999), span(0, 20000)},
		{long, only(1999999999), span(199999, 200000)}, {steep, only(9961199999), span(199999, 200000)}, {unsure, only(1961199999), span(196119, 200000)},
		// Both losses.
		{uneven, only(90), span(3, 9)}, {uneven, only(89), span(2, 9)}, {uneven, only(91), span(3, 10)}, {uneven, span(60, 80), span(2, 8)}, {uneven, span(59, 81), span(1, 9)}, {uneven, only(0), only(0)}, {uneven, span(0, 10), span(0, 1)},
		{hill, only(98060000), span(9806, 10000)}, {hill, only(98059999), span(9805, 10000)}, {hill, only(98050194), span(9805, 9999)}, {hill, only(98060001), span(9806, 10001)}, {hill, span(98060000, 98069806), span(9806, 10001)}, {hill, only(0), only(0)}, {hill, only(1), span(0, 1)},
		{climb, only(58849), span(6, 7)}, {climb, only(16831), span(2, 3)}, {climb, only(16830), span(1, 3)}, {climb, only(8407), span(0, 1)}, {climb, only(8408), span(0, 2)}, {climb, only(0), only(0)},
		// The least loss there is: Resist.Low * Length + Gravity * Rise is 1.
		{least, only(0), only(0)}, {least, only(1), span(4903, 4904)}, {least, span(0, 1), span(0, 4904)}, {wide, only(1), span(0, 4904)}, {wide, only(0), only(0)},
		// Products beyond a value.
		{long, only(10000), only(1)}, {long, only(1999990000), only(199999)}, {long, only(1999989999), span(199998, 199999)}, {long, only(1999990001), span(199999, 200000)}, {steep, only(4980600000), only(100000)},
		{steep, only(9000000000), span(180701, 180702)}, {unsure, only(1000000000), span(100000, 101979)}, {unsure, span(999999999, 1000000000), span(99999, 101979)},
	} {
		checkTurn(t, c.x, c.e, c.want, impl.ErrNone)
		// A train coasts on each kind of segment here, whatever its device could do.
		for _, x := range asAllKinds(c.x) {
			if x.Kind != impl.SegmentPlain {
				x.Force = span(1, 20000)
			}
			checkTurn(t, x, c.e, c.want, impl.ErrNone)
		}
	}
}

func TestTrainsThatMayPassDoNotTurn(t *testing.T) {
	for _, c := range []struct {
		x impl.Segment
		e impl.Interval
	}{
		// e.High + C is 0, and more.
		{slope(10, 0, only(5)), only(100)}, {slope(10, 0, only(5)), span(0, 100)}, {slope(10, 0, only(5)), span(99, 100)}, {slope(10, 0, only(5)), only(101)}, {slope(10, 0, only(5)), span(0, full)},
		{slope(10, 0, span(5, 15)), only(100)}, {slope(10, 0, span(5, 15)), only(299)}, {slope(10, 0, span(5, 15)), only(300)}, {slope(10, 0, span(5, 15)), span(0, 100)}, {slope(20000, 10000, span(0, 97)), only(196120000)},
		{slope(20000, 10000, span(0, 97)), span(0, 196120000)}, {slope(9807, -1, only(1)), only(2)}, {slope(9807, -1, span(1, 3)), span(0, 2)}, {slope(200000, 100000, only(20000)), only(9961200000)}, {slope(200000, 100000, only(20000)), only(full)},
		// Resist.Low * Length + Gravity * Rise is 0: even a train that stands may pass.
		{slope(10, 0, only(0)), only(0)}, {slope(10, 0, span(0, 100)), only(0)}, {slope(10, 0, span(0, 100)), span(0, 1)}, {slope(9806, -1, only(1)), only(0)}, {slope(9806, -1, span(1, 100)), only(0)}, {slope(9806, -1, only(1)), only(full)},
		// It is below 0, where the greatest loss is below 0, 0 or above it.
		{slope(9805, -1, only(1)), only(0)}, {slope(9805, -1, span(1, 2)), only(0)}, {slope(9806, -1, span(0, 1)), only(0)}, {slope(9806, -1, span(0, 2)), only(0)}, {slope(9806, -1, span(0, 2)), span(0, 1)}, {slope(10, -1, span(0, impl.MaxForce)), only(0)},
		{slope(10, -10, only(0)), only(0)}, {slope(10, -10, span(0, 100)), span(5, 7)}, {slope(200000, -100000, span(0, impl.MaxForce)), only(0)}, {slope(200000, -100000, span(0, impl.MaxForce)), only(full)},
	} {
		for _, x := range asAllKinds(c.x) {
			if x.Kind != impl.SegmentPlain {
				x.Force = only(20000)
			}
			checkTurn(t, x, c.e, span(0, 0), impl.ErrState)
		}
	}
}

// checkTurned checks a distance by its definition, and that the train turns back on the segment.
func checkTurned(t *testing.T, x impl.Segment, e impl.Interval) {
	t.Helper()
	least, most := 2*(x.Resist.Low*x.Length+9806*x.Rise), 2*(x.Resist.High*x.Length+9806*x.Rise)
	if least < 1 || e.High >= least {
		checkTurn(t, x, e, span(0, 0), impl.ErrState)
		return
	}
	d, code := impl.TurnDistance(x, e)
	low, high := e.Low*x.Length, e.High*x.Length
	if code != impl.ErrNone || d.Low*most > low || (d.Low+1)*most <= low || d.High*least < high || (d.High-1)*least >= high {
		t.Errorf("TurnDistance(%v, %v) = %v, %d", x, e, d, code)
	}
	if d.Low < 0 || d.High > x.Length {
		t.Errorf("TurnDistance(%v, %v) = %v, but the segment ends at %d", x, e, d, x.Length)
	}
}

// TestTrainsTurnWithinTheSegment checks the second half of promise 8, with the intervals between all
// energies that matter.
func TestTrainsTurnWithinTheSegment(t *testing.T) {
	segments := append(activeSegments(),
		slope(10, 0, only(5)), slope(10, 0, span(5, 15)), slope(9807, -1, only(1)), slope(7, 3, span(1, 5)), slope(19999, 777, span(13, 1777)), slope(199999, -9, span(1, impl.MaxForce)),
	)
	for _, x := range segments {
		least := -changeBy(x).High
		numbers := aroundEnergies(0, least, least/2, least/x.Length, least/x.Length*(x.Length-1), -changeBy(x).Low, full)
		for i, low := range numbers {
			for _, high := range numbers[i:] {
				checkTurned(t, x, span(low, high))
			}
		}
		for _, e := range notEnergies() {
			checkTurn(t, x, e, span(0, 0), impl.ErrInvalid)
		}
	}
}

// TestTurnsAgreeWithVerdicts checks that exactly the trains that never pass a segment turn on it.
func TestTurnsAgreeWithVerdicts(t *testing.T) {
	for _, x := range activeSegments() {
		for n := int64(0); n <= full; n += full / 100 {
			for _, e := range []impl.Interval{only(n), span(n/2, n), span(0, n)} {
				v, _ := impl.PassVerdict(x, e)
				if _, code := impl.TurnDistance(x, e); (code == impl.ErrNone) != (v == impl.PassNever) {
					t.Errorf("TurnDistance(%v, %v) has the error %d, and the verdict is %d", x, e, code, v)
				}
			}
		}
	}
}

func TestTimesOfLifts(t *testing.T) {
	for _, c := range []struct {
		length      int64
		force, want impl.Interval
	}{
		// Times that are exact, and such that are rounded down or up, or both.
		{20000, only(2000), only(10000)}, {20000, only(3000), span(6666, 6667)}, {20000, span(2000, 3000), span(6666, 10000)}, {20000, span(3000, 4000), span(5000, 6667)}, {20000, span(2000, 4000), span(5000, 10000)}, {20000, span(3000, 7000), span(2857, 6667)},
		{1, only(1000), only(1)}, {1, only(999), span(1, 2)}, {1, only(1001), span(0, 1)}, {1, span(999, 1001), span(0, 2)}, {1, span(1000, 1001), span(0, 1)}, {1, span(999, 1000), span(1, 2)}, {1, only(1), only(1000)}, {1, only(impl.MaxForce), span(0, 1)},
		{19, only(impl.MaxForce), span(0, 1)}, {20, only(impl.MaxForce), only(1)}, {21, only(impl.MaxForce), span(1, 2)}, {7, only(7), only(1000)}, {7, only(6), span(1166, 1167)}, {7, span(6, 7), span(1000, 1167)}, {7, span(7, 8), span(875, 1000)},
		{impl.MaxLength, only(1), only(200000000)}, {impl.MaxLength, only(impl.MaxForce), only(10000)}, {impl.MaxLength, span(1, impl.MaxForce), span(10000, 200000000)}, {impl.MaxLength, only(3), span(66666666, 66666667)}, {199999, only(impl.MaxForce), span(9999, 10000)},
	} {
		for _, rise := range []int64{-1, 0, 1} {
			for _, resist := range []impl.Interval{only(0), span(0, 100), only(impl.MaxForce)} {
				checkTime(t, lift(c.length, rise, resist, c.force), c.want, impl.ErrNone)
			}
		}
	}
}

func TestTimesByTheirDefinition(t *testing.T) {
	for _, x := range activeSegments() {
		if x.Kind != impl.SegmentLift {
			checkTime(t, x, span(0, 0), impl.ErrState)
			continue
		}
		d, code := impl.LiftTime(x)
		way := 1000 * x.Length
		if code != impl.ErrNone || d.Low*x.Force.High > way || (d.Low+1)*x.Force.High <= way || d.High*x.Force.Low < way || (d.High-1)*x.Force.Low >= way {
			t.Errorf("LiftTime(%v) = %v, %d", x, d, code)
		}
	}
}

func TestArgumentsOfActiveRunsAreNotChanged(t *testing.T) {
	segments := append(loop().Segments, plain(77, 7), plain(78, 8))
	numbers := []int64{0, 2, 3, 4, 77, 78}
	keptSegments, keptNumbers := slices.Clone(segments), slices.Clone(numbers)
	l, on, e := circuit(segments[:8]...), numbers[:4], span(400, 410)
	for from := range int64(8) {
		for count := range int64(impl.MaxSegments + 1) {
			for range 2 {
				// A result that shared memory with an argument, or with one from before, would change it.
				list, _ := impl.ActiveAlong(l, from, count, e, on)
				for i := range list[:cap(list)] {
					list[:cap(list)][i] = span(-5, -5)
				}
				impl.FirstDoubt(l, from, count, e, on)
				impl.AreDevices(l, on)
			}
		}
	}
	if !slices.Equal(segments, keptSegments) || !slices.Equal(numbers, keptNumbers) {
		t.Errorf("the segments became %v, the devices %v", segments, numbers)
	}
	// The energies of one call do not go on in the next one.
	for range 2 {
		checkActiveAlong(t, l, 0, 3, span(100, 110), on, []impl.Interval{span(104, 126), span(94, 126), span(9, 36)}, impl.ErrNone)
		checkDoubt(t, l, 0, 4, span(100, 110), on, 3, impl.ErrNone)
	}
}
