package tests

import (
	"math"
	"slices"
	"testing"

	"loop.example/g00916/impl"
)

// trims is a level circuit with four brakes, two of which are alike, and with a device of each other
// kind among them. The comments are what is added with the device off, and with a brake on.
func trims() impl.Layout {
	return circuit(
		brake(1, 0, only(0), only(5)),                       // 0, -10
		slope(1, 0, span(0, 1)),                             // -2 to 0
		brake(2, 0, only(0), span(3, 4)),                    // 0, -16 to -12
		forced(impl.SegmentStation, 2, 0, only(0), only(7)), // 0
		brake(1, 0, only(0), only(5)),                       // 0, -10
		launch(1, 0, only(0), only(9)),                      // 0
		lift(1, 0, span(0, 1), span(1, 2)),                  // -2 to 0
		brake(3, 0, only(1), only(4)),                       // -6, -30
		forced(impl.SegmentStation, 1, 0, only(0), only(8)), // 0
	)
}

// summit has a climb of 19612 between two brakes that take 100 each, and the fall behind it.
func summit() impl.Layout {
	return circuit(
		brake(10, 0, only(0), only(5)),
		slope(10, 1, only(0)),
		slope(10, -1, only(0)),
		brake(10, 0, only(0), only(5)),
		forced(impl.SegmentStation, 1, 0, only(0), only(1)),
	)
}

// pit is like summit, but the fall of 19612 comes before the climb.
func pit() impl.Layout {
	l := summit()
	l.Segments[1], l.Segments[2] = l.Segments[2], l.Segments[1]
	return l
}

// brakeLine returns a level circuit with some brakes, each of which takes 2, and a station.
func brakeLine(count int) impl.Layout {
	list := slices.Repeat([]impl.Segment{brake(1, 0, only(0), only(1))}, count)
	return circuit(append(list, forced(impl.SegmentStation, 1, 0, only(0), only(1)))...)
}

// frictionless returns a circuit on which trains keep their energy if all devices are off.
func frictionless() impl.Layout {
	return circuit(slope(1, 0, only(0)), slope(2, 0, only(0)), slope(3, 0, only(0)), forced(impl.SegmentStation, 1, 0, only(0), only(1)))
}

// trimmedLayouts are circuits with no brake, with one and with several, up to MaxTrims.
func trimmedLayouts() []impl.Layout {
	return []impl.Layout{trims(), summit(), pit(), loop(), gentle(), ride(), coaster(), hills(), flat(3), brakeLine(2), brakeLine(impl.MaxTrims)}
}

// indicesBy returns the indices of the segments of a run, in the order in which trains come to them.
func indicesBy(l impl.Layout, from int64, count int64) []int64 {
	var list []int64
	for range count {
		list = append(list, from)
		if from++; from == int64(len(l.Segments)) {
			from = 0
		}
	}
	return list
}

// brakesBy returns the brakes of a run, by the definition.
func brakesBy(l impl.Layout, from int64, count int64) []int64 {
	run := indicesBy(l, from, count)
	var list []int64
	for i, x := range l.Segments {
		if x.Kind == impl.SegmentBrake && slices.Contains(run, int64(i)) {
			list = append(list, int64(i))
		}
	}
	return list
}

// setsOf returns all lists of some brakes: those with fewer elements first, and of those with as many
// the lexicographically smaller one.
func setsOf(brakes []int64) [][]int64 {
	lists := [][]int64{nil}
	for _, x := range brakes {
		for _, list := range lists {
			lists = append(lists, append(slices.Clone(list), x))
		}
	}
	slices.SortFunc(lists, func(a []int64, b []int64) int {
		if len(a) != len(b) {
			return len(a) - len(b)
		}
		return slices.Compare(a, b)
	})
	return lists
}

// choice is a list of brakes with which a train surely passes a run, and the High of its energy at
// the end.
type choice struct {
	on   []int64
	high int64
}

// choicesBy returns all choices of brakes on a run in the order of setsOf, by the definition.
func choicesBy(l impl.Layout, from int64, count int64, e impl.Interval) []choice {
	var choices []choice
	for _, on := range setsOf(brakesBy(l, from, count)) {
		list, code, _ := activeBySteps(l, from, count, e, on)
		if code == impl.ErrNone {
			choices = append(choices, choice{on, append([]impl.Interval{e}, list...)[count].High})
		}
	}
	return choices
}

// leastBy returns the first choice that keeps a limit, and its error code.
func leastBy(choices []choice, limit int64) ([]int64, int64) {
	for _, c := range choices {
		if c.high <= limit {
			return c.on, impl.ErrNone
		}
	}
	return nil, impl.ErrNotFound
}

// peakBy returns the greatest High of an energy and of those behind a run.
func peakBy(e impl.Interval, list []impl.Interval) int64 {
	highs := []int64{e.High}
	for _, x := range list {
		highs = append(highs, x.High)
	}
	return slices.Max(highs)
}

// overspeedBy returns how many segments a train with some energies behind them passes before it
// exceeds a limit, by the definition.
func overspeedBy(l impl.Layout, limits []int64, from int64, list []impl.Interval) int64 {
	for i, segment := range indicesBy(l, from, int64(len(list))) {
		if list[i].High > limits[segment]*limits[segment] {
			return int64(i)
		}
	}
	return -1
}

func checkBrakes(t *testing.T, l impl.Layout, from int64, count int64, want []int64, code int64) {
	t.Helper()
	if got, c := impl.BrakesIn(l, from, count); !slices.Equal(got, want) || c != code {
		t.Errorf("BrakesIn(%v, %d, %d) = %v, %d; want %v, %d", l, from, count, got, c, want, code)
	}
}

func checkPeak(t *testing.T, l impl.Layout, from int64, count int64, e impl.Interval, on []int64, want int64, code int64) {
	t.Helper()
	if got, c := impl.PeakEnergy(l, from, count, e, on); got != want || c != code {
		t.Errorf("PeakEnergy(%v, %d, %d, %v, %v) = %d, %d; want %d, %d", l, from, count, e, on, got, c, want, code)
	}
}

// checkOverspeed checks also IsWithinLimits.
func checkOverspeed(t *testing.T, l impl.Layout, limits []int64, from int64, count int64, e impl.Interval, on []int64, want int64, code int64) {
	t.Helper()
	if got, c := impl.FirstOverspeed(l, limits, from, count, e, on); got != want || c != code {
		t.Errorf("FirstOverspeed(%v, %v, %d, %d, %v, %v) = %d, %d; want %d, %d", l, limits, from, count, e, on, got, c, want, code)
	}
	if got := impl.IsWithinLimits(l, limits, from, count, e, on); got != (want == -1 && code == impl.ErrNone) {
		t.Errorf("IsWithinLimits(%v, %v, %d, %d, %v, %v) = %v", l, limits, from, count, e, on, got)
	}
}

func checkLeastBrakes(t *testing.T, l impl.Layout, from int64, count int64, e impl.Interval, limit int64, want []int64, code int64) {
	t.Helper()
	if got, c := impl.LeastBrakes(l, from, count, e, limit); !slices.Equal(got, want) || c != code {
		t.Errorf("LeastBrakes(%v, %d, %d, %v, %d) = %v, %d; want %v, %d", l, from, count, e, limit, got, c, want, code)
	}
}

func checkArrival(t *testing.T, l impl.Layout, firsts []int64, block int64, e impl.Interval, on []int64, want impl.Interval, code int64) {
	t.Helper()
	if got, c := impl.ArrivalEnergy(l, firsts, block, e, on); got != want || c != code {
		t.Errorf("ArrivalEnergy(%v, %v, %d, %v, %v) = %v, %d; want %v, %d", l, firsts, block, e, on, got, c, want, code)
	}
}

func checkCaught(t *testing.T, l impl.Layout, firsts []int64, block int64, e impl.Interval, on []int64, want bool) {
	t.Helper()
	if got := impl.IsCaught(l, firsts, block, e, on); got != want {
		t.Errorf("IsCaught(%v, %v, %d, %v, %v) = %v", l, firsts, block, e, on, got)
	}
}

func TestMaxTrims(t *testing.T) {
	if impl.MaxTrims != 8 {
		t.Errorf("MaxTrims = %d", impl.MaxTrims)
	}
}

func TestBrakesOfRuns(t *testing.T) {
	for _, c := range []struct {
		from, count int64
		want        []int64
	}{
		// Runs without a brake: of no segment, of one, and of several with other devices.
		{0, 0, nil}, {7, 0, nil}, {8, 0, nil}, {1, 1, nil}, {3, 1, nil}, {8, 1, nil}, {5, 2, nil},
		// One brake, alone, at the beginning, in the middle and at the end.
		{0, 1, []int64{0}}, {2, 1, []int64{2}}, {7, 1, []int64{7}}, {2, 2, []int64{2}}, {3, 3, []int64{4}}, {5, 3, []int64{7}}, {7, 2, []int64{7}},
		// Several ones.
		{0, 3, []int64{0, 2}}, {0, 5, []int64{0, 2, 4}}, {1, 4, []int64{2, 4}}, {0, 8, []int64{0, 2, 4, 7}}, {4, 5, []int64{4, 7}},
		// Around the end of the circuit.
		{8, 2, []int64{0}}, {7, 3, []int64{0, 7}}, {7, 4, []int64{0, 7}}, {7, 5, []int64{0, 2, 7}}, {4, 6, []int64{0, 4, 7}}, {5, 8, []int64{0, 2, 7}}, {8, 8, []int64{0, 2, 4}},
		// As many segments as the circuit has.
		{0, 9, []int64{0, 2, 4, 7}}, {1, 9, []int64{0, 2, 4, 7}}, {4, 9, []int64{0, 2, 4, 7}}, {7, 9, []int64{0, 2, 4, 7}}, {8, 9, []int64{0, 2, 4, 7}},
	} {
		checkBrakes(t, trims(), c.from, c.count, c.want, impl.ErrNone)
	}
	// The most brakes that there can be.
	all := rising(impl.MaxSegments - 1)
	for from := range int64(impl.MaxSegments) {
		checkBrakes(t, brakeLine(impl.MaxSegments-1), from, impl.MaxSegments, all, impl.ErrNone)
	}
	checkBrakes(t, brakeLine(impl.MaxTrims), 0, impl.MaxTrims, rising(impl.MaxTrims), impl.ErrNone)
	checkBrakes(t, brakeLine(impl.MaxTrims+1), 3, impl.MaxTrims+2, rising(impl.MaxTrims+1), impl.ErrNone)
}

func TestEachRunWithBrakes(t *testing.T) {
	for _, l := range append(trimmedLayouts(), append(validLayouts(), brakeLine(impl.MaxTrims+1), brakeLine(impl.MaxSegments-1))...) {
		size := int64(len(l.Segments))
		for from := range size {
			for count := range int64(impl.MaxSegments + 1) {
				if count > size {
					checkBrakes(t, l, from, count, nil, impl.ErrRange)
				} else {
					checkBrakes(t, l, from, count, brakesBy(l, from, count), impl.ErrNone)
				}
			}
		}
	}
}

func TestPeaksOfRuns(t *testing.T) {
	all := []int64{0, 2, 3, 4, 5, 7}
	for _, c := range []struct {
		from, count int64
		e           impl.Interval
		on          []int64
		want        int64
	}{
		// That of e, also where another energy is as great.
		{0, 8, span(100, 110), nil, 110}, {3, 1, span(100, 110), nil, 110}, {3, 1, only(100), []int64{3}, 100}, {7, 1, span(100, 110), []int64{7}, 110}, {4, 1, span(0, 7), nil, 7},
		// That behind the first segment.
		{0, 3, span(100, 110), all, 126}, {0, 1, span(100, 110), []int64{0}, 126}, {4, 4, span(100, 110), []int64{4}, 130}, {4, 5, span(100, 110), []int64{4, 5}, 130}, {2, 2, span(16, 20), []int64{2}, 36},
		// That behind one in the middle.
		{3, 5, span(100, 110), all, 118}, {3, 4, span(100, 110), []int64{4}, 130}, {7, 3, span(100, 110), []int64{0, 7}, 120}, {1, 3, only(12), []int64{2}, 36},
		// That behind the last one.
		{3, 2, span(100, 110), []int64{4}, 130}, {7, 2, span(100, 110), []int64{0}, 126}, {6, 3, span(100, 110), []int64{0}, 122}, {1, 2, only(12), []int64{2}, 36},
		// More than once around.
		{0, 9, span(100, 110), []int64{0, 2, 4}, 126}, {0, 9, span(200, 210), []int64{0}, 226},
	} {
		checkPeak(t, loop(), c.from, c.count, c.e, c.on, c.want, impl.ErrNone)
	}
	// Runs of no segment, and energies that stay as they are, up to the greatest one.
	for from := range int64(4) {
		for _, e := range []impl.Interval{only(0), span(0, 1), span(5, 70), span(0, full), span(full-1, full), only(full)} {
			for _, count := range []int64{0, 1, 4, 5, impl.MaxSegments} {
				checkPeak(t, frictionless(), from, count, e, nil, e.High, impl.ErrNone)
			}
			checkPeak(t, loop(), from, 0, e, all, e.High, impl.ErrNone)
		}
	}
	checkPeak(t, coaster(), 0, 6, only(0), nil, 0, impl.ErrState)
	checkPeak(t, coaster(), 0, 3, only(0), nil, 117272000, impl.ErrNone)
	checkPeak(t, ride(), 0, 3, only(0), []int64{0}, 202120000, impl.ErrNone)
	checkPeak(t, ride(), 0, 2, only(0), []int64{0}, 202120000, impl.ErrNone)
	checkPeak(t, ride(), 0, 1, only(0), []int64{0}, 9000000, impl.ErrNone)
}

func TestOverspeeds(t *testing.T) {
	all, fast := []int64{0, 2, 3, 4, 5, 7}, int64(impl.MaxSpeed)
	free := slices.Repeat([]int64{fast}, 8)
	// limited returns limits of which only one matters.
	limited := func(segment int64, limit int64) []int64 {
		list := slices.Clone(free)
		list[segment] = limit
		return list
	}
	for _, c := range []struct {
		limits      []int64
		from, count int64
		e           impl.Interval
		on          []int64
		want        int64
	}{
		// A limit of 100, and a High of 99, 100 and 101 behind the segment.
		{limited(3, 10), 3, 1, only(99), nil, -1}, {limited(3, 10), 3, 1, only(100), nil, -1}, {limited(3, 10), 3, 1, only(101), nil, 0}, {limited(3, 10), 3, 1, span(50, 101), nil, 0}, {limited(3, 10), 3, 1, span(50, 100), nil, -1},
		{limited(0, 10), 0, 1, span(80, 83), []int64{0}, -1}, {limited(0, 10), 0, 1, span(80, 84), []int64{0}, -1}, {limited(0, 10), 0, 1, span(80, 85), []int64{0}, 0},
		{limited(3, 10), 3, 1, span(100, 111), []int64{3}, -1}, {limited(3, 10), 3, 1, span(100, 112), []int64{3}, -1}, {limited(3, 10), 3, 1, span(100, 113), []int64{3}, 0},
		// The energies are {104, 126}, {94, 126} and {9, 36}: behind the first segment only, the last one only, and never.
		{limited(0, 11), 0, 3, span(100, 110), all, 0}, {limited(1, 11), 0, 3, span(100, 110), all, 1}, {limited(2, 5), 0, 3, span(100, 110), all, 2}, {limited(2, 6), 0, 3, span(100, 110), all, -1},
		{limited(0, 12), 0, 3, span(100, 110), all, -1}, {free, 0, 3, span(100, 110), all, -1}, {limited(5, 0), 0, 3, span(100, 110), all, -1},
		// More than once, and always.
		{[]int64{12, 11, 5, fast, fast, fast, fast, fast}, 0, 3, span(100, 110), all, 1}, {[]int64{11, 12, 5, 0, 0, 0, 0, 0}, 0, 3, span(100, 110), all, 0}, {[]int64{12, 12, 5, 0, 0, 0, 0, 0}, 0, 3, span(100, 110), all, 2},
		{[]int64{11, 11, 5, 0, 0, 0, 0, 0}, 0, 3, span(100, 110), all, 0}, {[]int64{12, 12, 6, 0, 0, 0, 0, 0}, 0, 3, span(100, 110), all, -1}, {slices.Repeat([]int64{0}, 8), 3, 5, span(100, 110), all, 0},
		// With a device off, a limit is exceeded that is kept with the device on, and the other way.
		{limited(3, 10), 3, 1, span(100, 110), nil, 0}, {limited(3, 10), 3, 1, span(100, 110), []int64{3}, -1}, {limited(4, 11), 3, 2, span(100, 110), nil, -1}, {limited(4, 11), 3, 2, span(100, 110), []int64{4}, 1},
		// Around the end of the circuit, and more than once around: {104, 126} behind the segment 0, {7, 60} one round later.
		{limited(0, 11), 7, 2, span(100, 110), []int64{0}, 1}, {limited(0, 12), 7, 2, span(100, 110), []int64{0}, -1}, {limited(7, 10), 7, 2, span(100, 110), []int64{0}, 0}, {limited(1, 10), 6, 4, span(100, 110), []int64{0}, 3},
		{limited(4, 7), 0, 9, span(100, 110), []int64{0, 2, 4}, 4}, {limited(3, 5), 0, 9, span(100, 110), []int64{0, 2, 4}, 3}, {[]int64{12, 12, 8, 8, 8, 8, 8, 8}, 0, 9, span(100, 110), []int64{0, 2, 4}, -1},
		// The energy before the run does not count.
		{limited(7, 8), 0, 2, span(100, 110), nil, -1}, {slices.Repeat([]int64{0}, 8), 0, 0, only(full), all, -1}, {slices.Repeat([]int64{0}, 8), 5, 0, only(0), nil, -1}, {slices.Repeat([]int64{6}, 8), 2, 1, span(100, 110), []int64{2}, -1},
	} {
		checkOverspeed(t, loop(), c.limits, c.from, c.count, c.e, c.on, c.want, impl.ErrNone)
	}
}

// TestLimitsOfAllSpeeds has limits of 0, of MaxSpeed and between them, on a circuit on which a train
// keeps its energy.
func TestLimitsOfAllSpeeds(t *testing.T) {
	l := frictionless()
	for _, v := range []int64{0, 1, 2, 3, 10, 316, 9999, 31623, impl.MaxSpeed - 1, impl.MaxSpeed} {
		same := slices.Repeat([]int64{v}, 4)
		for from := range int64(4) {
			for _, count := range []int64{1, 2, 4, impl.MaxSegments} {
				for _, high := range aroundEnergies(v * v) {
					want := int64(-1)
					if high > v*v {
						want = 0
					}
					checkOverspeed(t, l, same, from, count, only(high), nil, want, impl.ErrNone)
					checkOverspeed(t, l, same, from, count, span(0, high), nil, want, impl.ErrNone)
				}
			}
		}
	}
	// Another limit behind each segment.
	for from, want := range []int64{2, 1, 0, -1} {
		checkOverspeed(t, l, []int64{50, 40, 10, 30}, int64(from), 3-int64(from), span(50, 200), nil, want, impl.ErrNone)
	}
	checkOverspeed(t, l, []int64{50, 40, 10, 30}, 3, 4, span(50, 200), nil, 3, impl.ErrNone)
	checkOverspeed(t, l, []int64{50, 40, 10, 30}, 0, impl.MaxSegments, span(50, 1000), nil, 2, impl.ErrNone)
	checkOverspeed(t, l, []int64{50, 40, 10, 30}, 3, impl.MaxSegments, span(50, 1000), nil, 0, impl.ErrNone)
	checkOverspeed(t, l, []int64{50, 40, 10, 30}, 0, 4, only(100), nil, -1, impl.ErrNone)
}

// limitLists returns lists of limits of a layout: such that are the same everywhere, and such that
// only one of the energies behind a run exceeds, or just keeps.
func limitLists(l impl.Layout, from int64, list []impl.Interval) [][]int64 {
	size := len(l.Segments)
	var lists [][]int64
	for _, v := range []int64{0, 5, 10, 11, 300, 14000, 99999, impl.MaxSpeed} {
		lists = append(lists, slices.Repeat([]int64{v}, size))
	}
	for i, segment := range indicesBy(l, from, int64(len(list))) {
		root := int64(math.Sqrt(float64(list[i].High)))
		for _, v := range []int64{root - 1, root, root + 1} {
			limits := slices.Repeat([]int64{impl.MaxSpeed}, size)
			limits[segment] = min(max(v, 0), impl.MaxSpeed)
			lists = append(lists, limits)
		}
	}
	return lists
}

// TestEachRunWithLimits has each run on several circuits with each list of devices.
func TestEachRunWithLimits(t *testing.T) {
	for _, l := range []impl.Layout{loop(), ride(), pit(), hills(), frictionless()} {
		size := int64(len(l.Segments))
		for _, on := range devicesOf(l) {
			for from := range size {
				for _, count := range []int64{0, 1, 2, size - 1, size, size + 1, impl.MaxSegments} {
					for _, e := range []impl.Interval{only(0), span(0, full), span(100, 1000), span(400000000, 500000000), only(full)} {
						list, code, _ := activeBySteps(l, from, count, e, on)
						peak := int64(0)
						if code == impl.ErrNone {
							peak = peakBy(e, list)
						}
						checkPeak(t, l, from, count, e, on, peak, code)
						for _, limits := range limitLists(l, from, list) {
							want := int64(0)
							if code == impl.ErrNone {
								want = overspeedBy(l, limits, from, list)
							}
							checkOverspeed(t, l, limits, from, count, e, on, want, code)
						}
					}
				}
			}
		}
	}
}

// TestRunsThatAreInDoubt has runs in which a segment has an error, also where a limit is exceeded
// before it.
func TestRunsThatAreInDoubt(t *testing.T) {
	all := []int64{0, 2, 3, 4, 5, 7}
	for _, c := range []struct {
		from, count int64
		e           impl.Interval
		on          []int64
		code        int64
	}{
		// The first segment, one in the middle and the last one.
		{1, 1, span(9, 100), nil, impl.ErrState}, {1, 24, span(9, 100), all, impl.ErrState}, {3, 1, only(15), all, impl.ErrState}, {7, 8, only(11), []int64{0}, impl.ErrState},
		{0, 4, span(100, 110), all, impl.ErrState}, {0, 24, span(100, 110), all, impl.ErrState}, {6, 4, only(33), []int64{7}, impl.ErrState}, {0, 2, only(5), []int64{0}, impl.ErrState}, {3, 5, span(53, 60), all, impl.ErrState},
		{0, 1, only(full - 15), all, impl.ErrLimit}, {0, 5, only(full), []int64{0}, impl.ErrLimit}, {3, 4, only(full), []int64{4}, impl.ErrLimit}, {3, 5, only(full - 7), all, impl.ErrLimit}, {7, 2, only(full - 15), []int64{0}, impl.ErrLimit},
		// The first error of a run counts.
		{0, 24, span(0, full), all, impl.ErrLimit}, {3, 8, span(16, full-7), all, impl.ErrLimit}, {3, 2, span(15, full), all, impl.ErrState}, {0, 1, span(0, full), nil, impl.ErrState},
	} {
		checkPeak(t, loop(), c.from, c.count, c.e, c.on, 0, c.code)
		for _, v := range []int64{0, 5, 10, 11, impl.MaxSpeed} {
			checkOverspeed(t, loop(), slices.Repeat([]int64{v}, 8), c.from, c.count, c.e, c.on, 0, c.code)
		}
	}
}

func TestLeastBrakesOfRuns(t *testing.T) {
	for _, c := range []struct {
		from, count int64
		e           impl.Interval
		limit       int64
		want        []int64
	}{
		// Without any brake, where High is 94 behind the run.
		{0, 9, only(100), full, nil}, {0, 9, only(100), 95, nil}, {0, 9, only(100), 94, nil},
		// With one: the brakes 0 and 4 lead to 84, 2 to 82, and 7 to 70.
		{0, 9, only(100), 93, []int64{0}}, {0, 9, only(100), 84, []int64{0}}, {0, 9, only(100), 83, []int64{2}}, {0, 9, only(100), 82, []int64{2}},
		{0, 9, only(100), 81, []int64{7}}, {0, 9, only(100), 72, []int64{7}}, {0, 9, only(100), 70, []int64{7}},
		// With two: 0 and 7, as well as 4 and 7, lead to 60, and 2 and 7 to 58.
		{0, 9, only(100), 69, []int64{0, 7}}, {0, 9, only(100), 62, []int64{0, 7}}, {0, 9, only(100), 60, []int64{0, 7}}, {0, 9, only(100), 59, []int64{2, 7}}, {0, 9, only(100), 58, []int64{2, 7}},
		// With three, and with all of them.
		{0, 9, only(100), 57, []int64{0, 2, 7}}, {0, 9, only(100), 48, []int64{0, 2, 7}}, {0, 9, only(100), 47, []int64{0, 2, 4, 7}}, {0, 9, only(100), 38, []int64{0, 2, 4, 7}},
		// Only the High at the end has to keep the limit: neither Low nor the High on the way, or before the run.
		{0, 8, span(90, 100), 93, []int64{0}}, {0, 7, span(90, 100), 99, []int64{0}}, {0, 7, span(90, 100), 100, nil}, {4, 4, span(50, 100), 70, []int64{7}}, {0, 8, span(40, 100), 70, []int64{7}}, {0, 9, span(70, 100), 47, []int64{0, 2, 4, 7}},
		// Around the end of the circuit the brake 7 comes first, and 0 behind it.
		{7, 4, only(100), 94, nil}, {7, 4, only(100), 93, []int64{0}}, {7, 4, only(100), 83, []int64{7}}, {7, 4, only(100), 69, []int64{0, 7}}, {7, 9, only(100), 58, []int64{2, 7}},
		{4, 9, only(100), 69, []int64{0, 7}}, {4, 9, only(100), 57, []int64{0, 2, 7}}, {4, 9, only(100), 38, []int64{0, 2, 4, 7}},
		// Runs with one brake, and without any.
		{2, 2, only(100), 100, nil}, {2, 2, only(100), 99, []int64{2}}, {2, 2, only(100), 88, []int64{2}}, {5, 2, only(100), 100, nil}, {3, 1, only(100), 100, nil}, {8, 1, only(100), 100, nil},
		// A train does not surely pass with all of the brakes, or with some of them.
		{0, 9, only(40), 34, nil}, {0, 9, only(40), 33, []int64{0}}, {0, 9, only(40), 22, []int64{2}}, {0, 9, only(40), 21, []int64{7}}, {0, 9, only(34), 27, []int64{0}}, {0, 9, only(34), 17, []int64{2}},
		{0, 9, only(34), 15, []int64{7}}, {0, 9, only(33), 15, []int64{2}}, {0, 9, only(33), 14, []int64{0, 4}}, {0, 9, only(33), 7, []int64{0, 4}}, {0, 9, only(10), full, nil}, {0, 9, only(10), 4, nil},
	} {
		checkLeastBrakes(t, trims(), c.from, c.count, c.e, c.limit, c.want, impl.ErrNone)
	}
	for _, c := range []struct {
		from, count int64
		e           impl.Interval
		limit       int64
	}{
		// Not even all brakes are enough, or there is no brake; the other devices stay off.
		{0, 9, only(100), 37}, {0, 9, only(100), 0}, {7, 4, only(100), 59}, {2, 2, only(100), 87}, {5, 2, only(100), 99}, {3, 1, only(100), 99}, {8, 1, only(100), 99}, {3, 1, span(0, full), full - 1}, {5, 1, only(1), 0},
		// A train does not surely pass with all brakes that would be enough.
		{0, 8, span(40, 100), 69}, {0, 9, span(48, 100), 57}, {0, 9, span(69, 100), 47}, {0, 9, only(40), 9}, {0, 9, only(33), 6}, {0, 9, only(10), 3},
		// It does not surely pass without any of them either.
		{0, 9, only(9), full}, {0, 9, only(0), full}, {1, 1, only(1), 1}, {7, 1, only(5), full}, {7, 1, span(5, full), full},
	} {
		checkLeastBrakes(t, trims(), c.from, c.count, c.e, c.limit, nil, impl.ErrNotFound)
	}
}

// TestRunsOfNoSegment has limits of e.High and one less: there is no brake that could help.
func TestRunsOfNoSegment(t *testing.T) {
	for _, l := range append(trimmedLayouts(), brakeLine(impl.MaxTrims+1), valley()) {
		for from := range int64(len(l.Segments)) {
			checkBrakes(t, l, from, 0, nil, impl.ErrNone)
			for _, e := range []impl.Interval{only(0), only(1), span(0, 1), span(3, 100), span(0, full), span(full-1, full), only(full)} {
				checkLeastBrakes(t, l, from, 0, e, e.High, nil, impl.ErrNone)
				checkLeastBrakes(t, l, from, 0, e, full, nil, impl.ErrNone)
				if e.High > 0 {
					checkLeastBrakes(t, l, from, 0, e, e.High-1, nil, impl.ErrNotFound)
					checkLeastBrakes(t, l, from, 0, e, 0, nil, impl.ErrNotFound)
				}
			}
		}
	}
}

// TestBrakesBeforeASummit has brakes that come first in the order, but with which a train has too
// little energy for the climb.
func TestBrakesBeforeASummit(t *testing.T) {
	for _, c := range []struct {
		e     impl.Interval
		limit int64
		want  []int64
		code  int64
	}{
		{only(19650), 19650, nil, impl.ErrNone}, {only(19650), 19649, []int64{3}, impl.ErrNone}, {only(19650), 19550, []int64{3}, impl.ErrNone}, {only(19650), 19549, nil, impl.ErrNotFound},
		{only(19711), 19710, []int64{3}, impl.ErrNone}, {only(19711), 19610, nil, impl.ErrNotFound}, {only(19712), 19711, []int64{0}, impl.ErrNone}, {only(19712), 19611, []int64{0, 3}, impl.ErrNone}, {only(19712), 19511, nil, impl.ErrNotFound},
		{span(19711, 30000), 29999, []int64{3}, impl.ErrNone}, {span(19712, 30000), 29999, []int64{0}, impl.ErrNone}, {only(19611), full, nil, impl.ErrNotFound}, {only(19612), full, nil, impl.ErrNone},
	} {
		checkLeastBrakes(t, summit(), 0, 5, c.e, c.limit, c.want, c.code)
		checkLeastBrakes(t, summit(), 0, 4, c.e, c.limit, c.want, c.code)
	}
	// Around the end of the circuit both brakes come before the climb.
	checkLeastBrakes(t, summit(), 3, 5, only(19650), 19650, nil, impl.ErrNone)
	checkLeastBrakes(t, summit(), 3, 5, only(19650), 19649, nil, impl.ErrNotFound)
	checkLeastBrakes(t, summit(), 3, 5, only(19712), 19711, []int64{0}, impl.ErrNone)
	checkLeastBrakes(t, summit(), 3, 5, only(19712), 19611, nil, impl.ErrNotFound)
}

// TestBrakesBeforeAPit has brakes without which a train comes to more than the greatest energy on the
// way, whatever the limit is.
func TestBrakesBeforeAPit(t *testing.T) {
	const rim = full - 19612
	for _, c := range []struct {
		e     impl.Interval
		limit int64
		want  []int64
		code  int64
	}{
		{only(rim), full, nil, impl.ErrNone}, {only(rim), rim, nil, impl.ErrNone}, {only(rim), rim - 1, []int64{0}, impl.ErrNone}, {only(rim), rim - 101, []int64{0, 3}, impl.ErrNone},
		{only(rim + 1), full, []int64{0}, impl.ErrNone}, {only(rim + 1), rim - 99, []int64{0}, impl.ErrNone}, {only(rim + 1), rim - 100, []int64{0, 3}, impl.ErrNone}, {only(rim + 1), rim - 199, []int64{0, 3}, impl.ErrNone},
		{only(rim + 1), rim - 200, nil, impl.ErrNotFound}, {only(rim + 100), full, []int64{0}, impl.ErrNone}, {only(rim + 101), full, nil, impl.ErrNotFound}, {only(full), full, nil, impl.ErrNotFound},
		{span(99, rim+1), full, nil, impl.ErrNotFound}, {span(100, rim+1), full, []int64{0}, impl.ErrNone},
	} {
		checkLeastBrakes(t, pit(), 0, 5, c.e, c.limit, c.want, c.code)
	}
	// Around the end of the circuit both brakes come before the fall, and only one of them behind the climb.
	checkLeastBrakes(t, pit(), 3, 5, only(rim+1), full, []int64{0}, impl.ErrNone)
	checkLeastBrakes(t, pit(), 3, 5, only(rim+101), full, []int64{0, 3}, impl.ErrNone)
	checkLeastBrakes(t, pit(), 3, 5, only(rim+200), full, []int64{0, 3}, impl.ErrNone)
	checkLeastBrakes(t, pit(), 3, 5, only(rim+201), full, nil, impl.ErrNotFound)
	checkLeastBrakes(t, pit(), 2, 3, only(19613), 0, nil, impl.ErrNotFound)
	checkLeastBrakes(t, pit(), 2, 3, only(19712), 0, []int64{3}, impl.ErrNone)
}

// TestMostTrimBrakes has runs with as many brakes as there may be, and with more.
func TestMostTrimBrakes(t *testing.T) {
	line := brakeLine(impl.MaxTrims)
	for used := range int64(impl.MaxTrims + 1) {
		for _, count := range []int64{impl.MaxTrims, impl.MaxTrims + 1} {
			checkLeastBrakes(t, line, 0, count, only(100), 100-2*used, rising(int(used)), impl.ErrNone)
		}
		checkLeastBrakes(t, line, 5, impl.MaxTrims+1, only(100), 100-2*used, rising(int(used)), impl.ErrNone)
		// A train of this energy surely passes that many brakes.
		checkLeastBrakes(t, line, 0, impl.MaxTrims+1, only(2*used), 0, rising(int(used)), impl.ErrNone)
	}
	checkLeastBrakes(t, line, 0, impl.MaxTrims+1, only(100), 83, nil, impl.ErrNotFound)
	for _, count := range []int{impl.MaxTrims + 1, impl.MaxTrims + 2, impl.MaxSegments - 1} {
		l := brakeLine(count)
		// Some runs on this circuit have few enough brakes; the indices of the first ones come first.
		checkLeastBrakes(t, l, 1, impl.MaxTrims, only(100), 97, []int64{1, 2}, impl.ErrNone)
		checkLeastBrakes(t, l, int64(count)-3, impl.MaxTrims+1, only(100), 97, []int64{0, 1}, impl.ErrNone)
		checkLeastBrakes(t, l, int64(count), impl.MaxTrims+1, only(100), 84, rising(impl.MaxTrims), impl.ErrNone)
		for brakes := int64(impl.MaxTrims + 1); brakes <= int64(count); brakes++ {
			for _, limit := range []int64{0, 82, 97, 100, full} {
				// With a limit that is kept anyway, and with one that no choice keeps.
				checkLeastBrakes(t, l, 0, brakes, only(100), limit, nil, impl.ErrLimit)
				checkLeastBrakes(t, l, int64(count), brakes+1, only(100), limit, nil, impl.ErrLimit)
				checkLeastBrakes(t, l, 0, brakes, only(0), limit, nil, impl.ErrLimit)
				checkLeastBrakes(t, l, 0, brakes, span(0, full), limit, nil, impl.ErrLimit)
			}
		}
	}
}

// TestLongestRunsWithTrimBrakes has runs of 24 segments, one third of which are brakes.
func TestLongestRunsWithTrimBrakes(t *testing.T) {
	part := []impl.Segment{slope(1, 0, only(0)), brake(1, 0, only(0), only(1)), forced(impl.SegmentStation, 1, 0, only(0), only(1))}
	l := circuit(slices.Repeat(part, impl.MaxTrims)...)
	brakes := []int64{1, 4, 7, 10, 13, 16, 19, 22}
	for from := range int64(impl.MaxSegments) {
		checkBrakes(t, l, from, impl.MaxSegments, brakes, impl.ErrNone)
		for used := range int64(impl.MaxTrims + 1) {
			checkLeastBrakes(t, l, from, impl.MaxSegments, only(100), 100-2*used, brakes[:used], impl.ErrNone)
			checkPeak(t, l, from, impl.MaxSegments, only(100), brakes[:used], 100, impl.ErrNone)
		}
		checkLeastBrakes(t, l, from, impl.MaxSegments, only(100), 83, nil, impl.ErrNotFound)
		checkLeastBrakes(t, l, from, impl.MaxSegments, only(15), 0, nil, impl.ErrNotFound)
		checkLeastBrakes(t, l, from, impl.MaxSegments+1, only(100), 100, nil, impl.ErrRange)
	}
	// A train that brakes on each third segment loses 16 until the last one.
	checkOverspeed(t, l, slices.Repeat([]int64{9}, impl.MaxSegments), 1, impl.MaxSegments, only(81), brakes, -1, impl.ErrNone)
	checkOverspeed(t, l, append(slices.Repeat([]int64{10}, 23), 9), 0, impl.MaxSegments, only(97), brakes, -1, impl.ErrNone)
	checkOverspeed(t, l, append(slices.Repeat([]int64{10}, 23), 9), 0, impl.MaxSegments, only(98), brakes, 23, impl.ErrNone)
}

// TestLeastBrakesByTheirDefinition has each run on several circuits with all limits at which the
// least brakes change.
func TestLeastBrakesByTheirDefinition(t *testing.T) {
	for _, l := range trimmedLayouts() {
		size := int64(len(l.Segments))
		for from := range size {
			for count := range size + 1 {
				for _, e := range []impl.Interval{only(0), only(12), span(30, 35), only(90), span(90, 100), only(19650), only(19712), span(0, full), only(305000000), span(full-19612, full-19512), only(full)} {
					choices := choicesBy(l, from, count, e)
					limits := []int64{0, 1, full}
					for _, c := range choices {
						limits = append(limits, c.high-1, c.high, c.high+1)
					}
					slices.Sort(limits)
					for _, limit := range slices.Compact(limits) {
						if limit < 0 || limit > full {
							checkLeastBrakes(t, l, from, count, e, limit, nil, impl.ErrRange)
							continue
						}
						want, code := leastBy(choices, limit)
						checkLeastBrakes(t, l, from, count, e, limit, want, code)
					}
				}
			}
		}
	}
}

// keeps reports whether a train surely passes a run with some brakes and keeps a limit at its end.
func keeps(l impl.Layout, from int64, count int64, e impl.Interval, on []int64, limit int64) bool {
	list, code := impl.ActiveAlong(l, from, count, e, on)
	return code == impl.ErrNone && append([]impl.Interval{e}, list...)[count].High <= limit
}

// TestNoLeastBrakeCanBeLeftOut checks promise 9: the limit is kept with the least brakes, and not
// without one of them, or with any fewer ones.
func TestNoLeastBrakeCanBeLeftOut(t *testing.T) {
	for _, l := range trimmedLayouts() {
		size := int64(len(l.Segments))
		for from := range size {
			for _, e := range []impl.Interval{only(20), span(60, 70), only(100), span(19700, 19750), span(200000000, 400000000), only(full - 19600)} {
				for _, limit := range []int64{0, 1, 10, 30, 58, 60, 80, 94, 100, 19600, 200000000, full - 20000, full} {
					least, code := impl.LeastBrakes(l, from, size, e, limit)
					lists := setsOf(brakesBy(l, from, size))
					if code == impl.ErrNone {
						if !keeps(l, from, size, e, least, limit) || !impl.AreDevices(l, least) {
							t.Errorf("LeastBrakes(%v, %d, %d, %v, %d) = %v, but the limit is not kept", l, from, size, e, limit, least)
						}
						for i := range least {
							if keeps(l, from, size, e, slices.Delete(slices.Clone(least), i, i+1), limit) {
								t.Errorf("LeastBrakes(%v, %d, %d, %v, %d) = %v, but %d can be left out", l, from, size, e, limit, least, least[i])
							}
						}
						lists = slices.DeleteFunc(lists, func(on []int64) bool { return len(on) >= len(least) })
					}
					for _, on := range lists {
						if keeps(l, from, size, e, on, limit) {
							t.Errorf("LeastBrakes(%v, %d, %d, %v, %d) = %v, %d, but %v are enough", l, from, size, e, limit, least, code, on)
						}
					}
				}
			}
		}
	}
}

func TestArrivalsOnARide(t *testing.T) {
	firsts := []int64{0, 1, 3}
	for _, c := range []struct {
		firsts  []int64
		block   int64
		e       impl.Interval
		on      []int64
		want    impl.Interval
		caught  bool
		verdict int64
	}{
		// A block of one segment, which is a lift: it holds each train.
		{firsts, 0, only(0), nil, only(0), true, 0}, {firsts, 0, span(5, 70), []int64{0}, span(5, 70), true, 0}, {firsts, 0, span(0, full), []int64{0, 2, 3}, span(0, full), true, 0}, {firsts, 0, only(full), nil, only(full), true, 0},
		// The last block has one segment too, a station with the work {90000000, 123000000}.
		{firsts, 2, only(90000000), nil, only(90000000), true, impl.StopSure}, {firsts, 2, only(90000001), nil, only(90000001), false, impl.StopUnclear}, {firsts, 2, span(0, 90000000), []int64{3}, span(0, 90000000), true, impl.StopSure},
		{firsts, 2, span(0, 90000001), []int64{3}, span(0, 90000001), false, impl.StopUnclear}, {firsts, 2, only(123000000), []int64{0, 2, 3}, only(123000000), false, impl.StopUnclear}, {firsts, 2, only(123000001), nil, only(123000001), false, impl.StopNever},
		{firsts, 2, only(0), []int64{2}, only(0), true, impl.StopSure}, {firsts, 2, only(full), nil, only(full), false, impl.StopNever},
		// The brake of this block has the work {250000000, 305000000}; the drop before it adds 190120000 to 193120000.
		{firsts, 1, span(4000000, 9000000), nil, span(194120000, 202120000), true, impl.StopSure}, {firsts, 1, only(0), []int64{0, 2}, span(190120000, 193120000), true, impl.StopSure}, {firsts, 1, only(56880000), nil, span(247000000, 250000000), true, impl.StopSure},
		{firsts, 1, only(56880001), nil, span(247000001, 250000001), false, impl.StopUnclear}, {firsts, 1, only(56880001), []int64{2}, span(247000001, 250000001), false, impl.StopUnclear}, {firsts, 1, only(114880000), nil, span(305000000, 308000000), false, impl.StopUnclear},
		{firsts, 1, only(114880001), nil, span(305000001, 308000001), false, impl.StopNever}, {firsts, 1, span(0, 114880001), nil, span(190120000, 308000001), false, impl.StopUnclear},
		// Here a train comes over the lift and the drop to the brake, coasting or by the chain.
		{[]int64{0, 3}, 0, only(0), []int64{0}, span(194120000, 202120000), true, impl.StopSure}, {[]int64{0, 3}, 0, only(full), []int64{0, 3}, span(194120000, 202120000), true, impl.StopSure}, {[]int64{0, 3}, 0, only(200120000), nil, span(190120000, 197120000), true, impl.StopSure},
		{[]int64{0, 3}, 0, only(253000000), nil, span(243000000, 250000000), true, impl.StopSure}, {[]int64{0, 3}, 0, only(253000001), nil, span(243000001, 250000001), false, impl.StopUnclear},
		// And here over the brake to the station, which does not stop it, unless the brake is on.
		{[]int64{0, 1}, 1, span(4000000, 9000000), nil, span(189120000, 202120000), false, impl.StopNever}, {[]int64{0, 1}, 1, only(120000000), []int64{2}, span(5120000, 63120000), true, impl.StopSure}, {[]int64{0, 1}, 1, only(160000000), []int64{2}, span(45120000, 103120000), false, impl.StopUnclear},
	} {
		checkArrival(t, ride(), c.firsts, c.block, c.e, c.on, c.want, impl.ErrNone)
		checkCaught(t, ride(), c.firsts, c.block, c.e, c.on, c.caught)
		last, _ := impl.HoldingSegment(ride(), c.firsts, c.block)
		if x := ride().Segments[last]; x.Kind != impl.SegmentLift {
			checkStop(t, x, c.want, c.verdict, impl.ErrNone)
		}
	}
}

func TestTrainsThatDoNotArrive(t *testing.T) {
	for _, c := range []struct {
		l      impl.Layout
		firsts []int64
		block  int64
		e      impl.Interval
		on     []int64
		code   int64
	}{
		// Too little energy for the first segment, and for the last one before the holding segment.
		{ride(), []int64{0, 3}, 0, only(200119999), nil, impl.ErrState}, {ride(), []int64{0, 3}, 0, only(0), []int64{2, 3}, impl.ErrState}, {ride(), []int64{0, 1}, 1, span(4000000, 9000000), []int64{2}, impl.ErrState}, {ride(), []int64{0, 1}, 1, only(114879999), []int64{2}, impl.ErrState},
		// Also for a lift, which would hold each train that comes to it.
		{gentle(), []int64{0, 4}, 0, only(0), nil, impl.ErrState}, {gentle(), []int64{0, 4}, 0, only(21), nil, impl.ErrState}, {gentle(), []int64{0, 6}, 0, only(47), nil, impl.ErrState}, {gentle(), []int64{0, 4}, 0, only(11), []int64{1, 3}, impl.ErrState},
		{gentle(), []int64{0, 3, 4, 6, 8, 9}, 2, only(9), nil, impl.ErrState}, {gentle(), []int64{0, 3, 4, 6, 8, 9}, 2, only(9), []int64{3, 5}, impl.ErrState},
		// Too much energy.
		{ride(), []int64{0, 1, 3}, 1, only(full - 193119999), nil, impl.ErrLimit}, {ride(), []int64{0, 1, 3}, 1, only(full), []int64{2}, impl.ErrLimit}, {ride(), []int64{0, 1}, 1, only(full), []int64{2}, impl.ErrLimit}, {gentle(), []int64{0, 4}, 0, only(full), []int64{1}, impl.ErrLimit},
	} {
		checkArrival(t, c.l, c.firsts, c.block, c.e, c.on, span(0, 0), c.code)
		checkCaught(t, c.l, c.firsts, c.block, c.e, c.on, false)
	}
	// One more, or one less, and they arrive.
	checkArrival(t, ride(), []int64{0, 1, 3}, 1, only(full-193120000), nil, span(full-3000000, full), impl.ErrNone)
	checkArrival(t, ride(), []int64{0, 1}, 1, only(114880000), []int64{2}, span(0, 58000000), impl.ErrNone)
	checkArrival(t, gentle(), []int64{0, 4}, 0, only(22), nil, span(0, 18), impl.ErrNone)
	checkArrival(t, gentle(), []int64{0, 3, 4, 6, 8, 9}, 2, only(10), nil, only(0), impl.ErrNone)
	checkCaught(t, gentle(), []int64{0, 4}, 0, only(22), nil, true)
	checkCaught(t, gentle(), []int64{0, 3, 4, 6, 8, 9}, 2, only(10), nil, true)
}

// TestArrivalsByTheirDefinition has all blocks of several circuits with each list of devices.
func TestArrivalsByTheirDefinition(t *testing.T) {
	for _, l := range []impl.Layout{trims(), gentle(), ride(), coaster(), loop(), hills()} {
		for _, firsts := range blockLists(l) {
			for block := range int64(len(firsts)) {
				before, holding := partsBy(l, firsts, block)
				for i, on := range devicesOf(l) {
					for _, e := range []impl.Interval{only(int64(i)), span(0, 12), span(20, 28), span(40, 49), span(300, 1000), span(80000000, 300000000), span(0, full), only(full)} {
						list, code, _ := activeBySteps(l, firsts[block], int64(len(before)), e, on)
						if code != impl.ErrNone {
							checkArrival(t, l, firsts, block, e, on, span(0, 0), code)
							checkCaught(t, l, firsts, block, e, on, false)
							continue
						}
						want := append([]impl.Interval{e}, list...)[len(before)]
						checkArrival(t, l, firsts, block, e, on, want, impl.ErrNone)
						checkCaught(t, l, firsts, block, e, on, holding.Kind == impl.SegmentLift || stopBy(workBy(holding), want) == impl.StopSure)
					}
				}
			}
		}
	}
}

// TestCoastingTrainsThatMayEnterAreCaught compares with MayEnter, where all devices are off.
func TestCoastingTrainsThatMayEnterAreCaught(t *testing.T) {
	for _, l := range enteredLayouts() {
		for _, firsts := range blockLists(l) {
			for block := range int64(len(firsts)) {
				for _, e := range []impl.Interval{only(0), span(0, 12), span(20, 28), only(1000), span(200000000, 250000000), only(full / 2), only(full)} {
					may, _ := impl.MayEnter(l, firsts, block, e)
					checkCaught(t, l, firsts, block, e, nil, may)
				}
			}
		}
	}
}

// checkNoTrims checks what all functions of runs return for arguments with the code ErrInvalid or
// ErrRange, also with limits of other errors.
func checkNoTrims(t *testing.T, l impl.Layout, from int64, count int64, on []int64, code int64) {
	t.Helper()
	fits := slices.Repeat([]int64{10}, len(l.Segments))
	for _, limits := range append(notLimits(len(l.Segments)), fits) {
		for _, e := range []impl.Interval{only(0), span(0, full), only(full)} {
			checkOverspeed(t, l, limits, from, count, e, on, 0, code)
		}
		for _, e := range notEnergies() {
			checkOverspeed(t, l, limits, from, count, e, on, 0, impl.ErrInvalid)
		}
	}
	for _, e := range []impl.Interval{only(0), span(0, full), only(full)} {
		checkPeak(t, l, from, count, e, on, 0, code)
	}
	for _, e := range notEnergies() {
		checkPeak(t, l, from, count, e, on, 0, impl.ErrInvalid)
	}
}

// checkNoRunOfBrakes checks what the functions of brakes return for a run that there is not.
func checkNoRunOfBrakes(t *testing.T, l impl.Layout, from int64, count int64, code int64) {
	t.Helper()
	checkBrakes(t, l, from, count, nil, code)
	for _, limit := range []int64{0, 1, full, -1, full + 1, math.MinInt64, math.MaxInt64} {
		for _, e := range []impl.Interval{only(0), span(0, full), only(full)} {
			checkLeastBrakes(t, l, from, count, e, limit, nil, code)
		}
		for _, e := range notEnergies() {
			checkLeastBrakes(t, l, from, count, e, limit, nil, impl.ErrInvalid)
		}
	}
}

// notLimits returns lists that are no limits of a layout with a number of segments.
func notLimits(size int) [][]int64 {
	lists := [][]int64{slices.Repeat([]int64{10}, size+1), slices.Repeat([]int64{10}, size+24)}
	if size > 0 {
		lists = append(lists, nil, slices.Repeat([]int64{10}, size-1))
	}
	for i := range size {
		for _, v := range []int64{-1, impl.MaxSpeed + 1, math.MinInt64, math.MaxInt64, -impl.MaxSpeed, 1 << 32} {
			limits := slices.Repeat([]int64{10}, size)
			limits[i] = v
			lists = append(lists, limits)
		}
	}
	return lists
}

func TestTrimsOutsideOfTheLayout(t *testing.T) {
	counts := []int64{-1, -2, impl.MaxSegments + 1, impl.MaxSegments + 2, math.MaxInt64, math.MinInt64}
	for _, l := range []impl.Layout{frictionless(), brakeLine(9), brakeLine(impl.MaxSegments - 1)} {
		size := int64(len(l.Segments))
		for _, from := range append([]int64{size, size + 1, 2 * size}, far...) {
			for _, count := range append([]int64{0, 1, size, size + 1, impl.MaxSegments}, counts...) {
				checkNoRunOfBrakes(t, l, from, count, impl.ErrRange)
			}
		}
		for from := range size {
			for _, count := range counts {
				checkNoRunOfBrakes(t, l, from, count, impl.ErrRange)
			}
			for count := size + 1; count <= impl.MaxSegments; count++ {
				checkNoRunOfBrakes(t, l, from, count, impl.ErrRange)
			}
		}
	}
	for _, on := range [][]int64{nil, {3}, {0}, {3, 3}, {-1}, {4}} {
		for _, from := range append([]int64{4, 5}, far...) {
			for _, count := range append([]int64{0, 1, 4}, counts...) {
				checkNoTrims(t, frictionless(), from, count, on, impl.ErrRange)
			}
		}
		for _, count := range counts {
			checkNoTrims(t, frictionless(), 0, count, on, impl.ErrRange)
			checkNoTrims(t, frictionless(), 3, count, on, impl.ErrRange)
		}
	}
	for _, on := range [][]int64{{0}, {3, 3}, {-1}, {4}, {0, 3}, {3, math.MaxInt64}, {math.MinInt64}} {
		for from := range int64(4) {
			for _, count := range []int64{0, 1, 4, 5, impl.MaxSegments} {
				checkNoTrims(t, frictionless(), from, count, on, impl.ErrRange)
			}
		}
	}
}

// TestListsThatAreNoLimits checks also that they come before the errors of trains on the way.
func TestListsThatAreNoLimits(t *testing.T) {
	for _, l := range []impl.Layout{loop(), frictionless(), flat(3), flat(impl.MaxSegments)} {
		for _, limits := range notLimits(len(l.Segments)) {
			for from := range int64(len(l.Segments)) {
				for _, count := range []int64{0, 1, 3, impl.MaxSegments} {
					for _, e := range []impl.Interval{only(0), span(100, 110), span(0, full), only(full)} {
						checkOverspeed(t, l, limits, from, count, e, nil, 0, impl.ErrRange)
						checkOverspeed(t, l, limits, from, count, e, []int64{int64(len(l.Segments)) - 1}, 0, impl.ErrRange)
					}
				}
			}
		}
		// The empty list is none either.
		checkOverspeed(t, l, []int64{}, 0, 0, only(0), nil, 0, impl.ErrRange)
	}
}

func TestLimitsOfEnergies(t *testing.T) {
	for _, l := range []impl.Layout{trims(), frictionless(), brakeLine(impl.MaxTrims), brakeLine(impl.MaxTrims + 1), brakeLine(impl.MaxSegments - 1)} {
		size := int64(len(l.Segments))
		for from := range size {
			for _, count := range []int64{0, 1, size - 1, size} {
				for _, limit := range []int64{-1, full + 1, -full, math.MinInt64, math.MaxInt64} {
					for _, e := range []impl.Interval{only(0), only(100), span(0, full), only(full)} {
						checkLeastBrakes(t, l, from, count, e, limit, nil, impl.ErrRange)
					}
				}
			}
		}
	}
	// 0 and MaxEnergy are limits.
	checkLeastBrakes(t, frictionless(), 1, 4, only(0), 0, nil, impl.ErrNone)
	checkLeastBrakes(t, frictionless(), 1, 4, only(full), full, nil, impl.ErrNone)
	checkLeastBrakes(t, frictionless(), 1, 4, only(full), full-1, nil, impl.ErrNotFound)
	checkLeastBrakes(t, frictionless(), 1, 4, only(1), 0, nil, impl.ErrNotFound)
}

func TestTrimsOnInvalidLayouts(t *testing.T) {
	layouts := brokenLayouts()
	for _, x := range brokenSegments() {
		for _, i := range []int{0, 3, 8} {
			l := trims()
			l.Segments[i] = x
			layouts = append(layouts, l)
		}
	}
	for _, l := range layouts {
		for _, from := range []int64{0, -1, 8, math.MaxInt64} {
			for _, count := range []int64{0, 1, -1, impl.MaxSegments + 1} {
				checkNoRunOfBrakes(t, l, from, count, impl.ErrInvalid)
			}
		}
		for _, on := range [][]int64{nil, {0}, {2, 0}, {24}} {
			checkNoTrims(t, l, 0, 1, on, impl.ErrInvalid)
			checkNoTrims(t, l, -1, 25, on, impl.ErrInvalid)
		}
		for _, firsts := range [][]int64{{0, 1}, {0, 3}, nil, {0, 2}} {
			for _, block := range []int64{0, 1, -1, 8} {
				checkNoArrival(t, l, firsts, block, nil, impl.ErrInvalid)
				checkNoArrival(t, l, firsts, block, []int64{-1}, impl.ErrInvalid)
			}
		}
	}
}

func TestEnergiesOfTrimsAreEnergies(t *testing.T) {
	limits := slices.Repeat([]int64{10}, 9)
	for _, e := range notEnergies() {
		for from := range int64(9) {
			for _, count := range []int64{0, 1, 9} {
				checkPeak(t, trims(), from, count, e, nil, 0, impl.ErrInvalid)
				checkOverspeed(t, trims(), limits, from, count, e, nil, 0, impl.ErrInvalid)
				for _, limit := range []int64{0, 100, full, -1} {
					checkLeastBrakes(t, trims(), from, count, e, limit, nil, impl.ErrInvalid)
				}
			}
		}
		// It comes before too many brakes, and before limits that can't be kept.
		checkLeastBrakes(t, brakeLine(9), 0, 9, e, 0, nil, impl.ErrInvalid)
		checkLeastBrakes(t, brakeLine(9), 0, 9, e, full, nil, impl.ErrInvalid)
		for _, firsts := range blockLists(gentle()) {
			for block := range int64(len(firsts)) {
				checkArrival(t, gentle(), firsts, block, e, nil, span(0, 0), impl.ErrInvalid)
				checkCaught(t, gentle(), firsts, block, e, nil, false)
			}
		}
	}
}

// checkNoArrival checks what the functions of arrivals return for arguments with the code ErrInvalid
// or ErrRange. Energies with which a train does not arrive make no difference.
func checkNoArrival(t *testing.T, l impl.Layout, firsts []int64, block int64, on []int64, code int64) {
	t.Helper()
	for _, e := range []impl.Interval{only(0), span(5, 7), span(0, full), only(full)} {
		checkArrival(t, l, firsts, block, e, on, span(0, 0), code)
		checkCaught(t, l, firsts, block, e, on, false)
	}
	for _, e := range notEnergies() {
		checkArrival(t, l, firsts, block, e, on, span(0, 0), impl.ErrInvalid)
		checkCaught(t, l, firsts, block, e, on, false)
	}
}

func TestArrivalsAtNoBlock(t *testing.T) {
	for _, l := range []impl.Layout{ride(), coaster(), hills()} {
		size := int64(len(l.Segments))
		for _, firsts := range blockLists(l) {
			count := int64(len(firsts))
			for _, block := range append([]int64{count, count + 1, size, 2 * size}, far...) {
				checkNoArrival(t, l, firsts, block, nil, impl.ErrRange)
				checkNoArrival(t, l, firsts, block, []int64{size - 1}, impl.ErrRange)
				checkNoArrival(t, l, firsts, block, []int64{1, 0}, impl.ErrRange)
			}
			// Lists that are no devices, also where the block has one segment only.
			for block := range count {
				for _, on := range [][]int64{{-1}, {size}, {1}, {size - 1, size - 1}, {size - 1, 0}, {math.MaxInt64}, {math.MinInt64}} {
					checkNoArrival(t, l, firsts, block, on, impl.ErrRange)
				}
			}
		}
	}
}

func TestArrivalsWithoutBlocks(t *testing.T) {
	for _, firsts := range [][]int64{nil, {}, {0}, {1, 3}, {0, 2}, {0, 1, 4}, {0, 0}, {0, 3, 1}, {-1, 0}, {0, 1, 2, 3}, {0, math.MaxInt64}, {math.MinInt64, 0}, rising(9)} {
		for _, block := range slices.Concat(near, far) {
			checkNoArrival(t, ride(), firsts, block, nil, impl.ErrInvalid)
			checkNoArrival(t, ride(), firsts, block, []int64{0, 2}, impl.ErrInvalid)
			checkNoArrival(t, ride(), firsts, block, []int64{1}, impl.ErrInvalid)
		}
	}
}

func TestArgumentsOfTrimsAreNotChanged(t *testing.T) {
	segments := append(trims().Segments, plain(77, 7), plain(78, 8))
	numbers := []int64{0, 3, 4, 5, 7, 77, 78}
	limits := append(slices.Repeat([]int64{10}, 9), 77, 78)
	keptSegments, keptNumbers, keptLimits := slices.Clone(segments), slices.Clone(numbers), slices.Clone(limits)
	l, list, e := circuit(segments[:9]...), numbers[:3], span(200, 210)
	for from := range int64(9) {
		for count := range int64(10) {
			for range 2 {
				// A result that shared memory with an argument, or with one from before, would change it.
				brakes, _ := impl.BrakesIn(l, from, count)
				least, _ := impl.LeastBrakes(l, from, count, e, 180)
				spoil(brakes)
				spoil(least)
			}
			impl.PeakEnergy(l, from, count, e, list)
			impl.FirstOverspeed(l, limits[:9], from, count, e, list)
			impl.IsWithinLimits(l, limits[:9], from, count, e, list)
			impl.ArrivalEnergy(l, list, count, e, list)
			impl.IsCaught(l, list, count, e, list)
		}
	}
	if !slices.Equal(segments, keptSegments) || !slices.Equal(numbers, keptNumbers) || !slices.Equal(limits, keptLimits) {
		t.Errorf("the segments became %v, the lists %v and %v", segments, numbers, limits)
	}
	checkBrakes(t, l, 4, 9, []int64{0, 2, 4, 7}, impl.ErrNone)
	checkLeastBrakes(t, l, 4, 9, only(100), 57, []int64{0, 2, 7}, impl.ErrNone)
}

// TestChoicesDoNotDependOnTheRun repeats calls that have many choices with as many brakes, which
// could come in another order.
func TestChoicesDoNotDependOnTheRun(t *testing.T) {
	for range 100 {
		for from := range int64(impl.MaxTrims + 1) {
			checkLeastBrakes(t, brakeLine(impl.MaxTrims), from, impl.MaxTrims+1, only(100), 92, rising(4), impl.ErrNone)
		}
	}
}
