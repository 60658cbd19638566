package tests

import (
	"fmt"
	"math"
	"slices"
	"testing"

	"loop.example/g00916/impl"
)

// level returns a circuit with a number of positions, at least 5, and three blocks: the last but one
// segment takes the positions that the others leave.
func level(track int64) impl.Layout {
	return circuit(plain(1, 0), device(impl.SegmentBrake, 1, 0), device(impl.SegmentLift, 1, 0), plain(track-4, 0), station(1))
}

// levelBlocks are the blocks of the circuits of level.
var levelBlocks = []int64{0, 2, 3}

// brokenLayouts are layouts that are not valid.
func brokenLayouts() []impl.Layout {
	high := hills()
	high.Segments[0].Rise++
	strange := hills()
	strange.Segments[3].Kind = 5
	endless := circuit(append(hills().Segments, plain(10, 0))...)
	return []impl.Layout{{}, circuit(station(5)), flat(2), flat(impl.MaxSegments + 1), high, strange, endless}
}

func trackOf(t *testing.T, l impl.Layout) int64 {
	t.Helper()
	track, code := impl.TrackLength(l)
	if code != impl.ErrNone {
		t.Fatalf("TrackLength(%v) has the error %d", l, code)
	}
	return track
}

// walk returns the positions from one on, as many as count, one step after the other around the
// circuit; step is 1 or -1.
func walk(track int64, position int64, count int64, step int64) []int64 {
	var list []int64
	for range count {
		list = append(list, position)
		position += step
		if position == track {
			position = 0
		}
		if position == -1 {
			position = track - 1
		}
	}
	return list
}

func coveredBy(track int64, front int64, length int64) []int64 {
	return walk(track, front, length, -1)
}

func checkRear(t *testing.T, l impl.Layout, front int64, length int64, want int64, code int64) {
	t.Helper()
	if got, c := impl.RearOf(l, front, length); got != want || c != code {
		t.Errorf("RearOf(%v, %d, %d) = %d, %d; want %d, %d", l, front, length, got, c, want, code)
	}
}

func checkMove(t *testing.T, l impl.Layout, front int64, distance int64, want int64, code int64) {
	t.Helper()
	if got, c := impl.MoveFront(l, front, distance); got != want || c != code {
		t.Errorf("MoveFront(%v, %d, %d) = %d, %d; want %d, %d", l, front, distance, got, c, want, code)
	}
}

func checkOccupied(t *testing.T, l impl.Layout, firsts []int64, front int64, length int64, want []int64, code int64) {
	t.Helper()
	if got, c := impl.OccupiedBlocks(l, firsts, front, length); !slices.Equal(got, want) || c != code {
		t.Errorf("OccupiedBlocks(%v, %v, %d, %d) = %v, %d; want %v, %d", l, firsts, front, length, got, c, want, code)
	}
}

func checkGap(t *testing.T, l impl.Layout, front int64, other int64, length int64, want int64, code int64) {
	t.Helper()
	if got, c := impl.GapAhead(l, front, other, length); got != want || c != code {
		t.Errorf("GapAhead(%v, %d, %d, %d) = %d, %d; want %d, %d", l, front, other, length, got, c, want, code)
	}
}

func checkSeparate(t *testing.T, l impl.Layout, fronts []int64, length int64, want bool) {
	t.Helper()
	if got := impl.AreSeparate(l, fronts, length); got != want {
		t.Errorf("AreSeparate(%v, %v, %d) = %v", l, fronts, length, got)
	}
}

func checkLoads(t *testing.T, l impl.Layout, firsts []int64, fronts []int64, length int64, want []int64, code int64) {
	t.Helper()
	if got, c := impl.BlockLoads(l, firsts, fronts, length); !slices.Equal(got, want) || c != code {
		t.Errorf("BlockLoads(%v, %v, %v, %d) = %v, %d; want %v, %d", l, firsts, fronts, length, got, c, want, code)
	}
}

func checkCovered(t *testing.T, l impl.Layout, sensors []int64, front int64, length int64, want []int64, code int64) {
	t.Helper()
	if got, c := impl.SensorsCovered(l, sensors, front, length); !slices.Equal(got, want) || c != code {
		t.Errorf("SensorsCovered(%v, %v, %d, %d) = %v, %d; want %v, %d", l, sensors, front, length, got, c, want, code)
	}
}

func checkPassed(t *testing.T, l impl.Layout, sensors []int64, front int64, distance int64, want []int64, code int64) {
	t.Helper()
	if got, c := impl.SensorsPassed(l, sensors, front, distance); !slices.Equal(got, want) || c != code {
		t.Errorf("SensorsPassed(%v, %v, %d, %d) = %v, %d; want %v, %d", l, sensors, front, distance, got, c, want, code)
	}
}

// checkNoTrain checks what all functions with a length return where there can be no train with it
// and a front: code is ErrInvalid if the layout is not valid, and ErrRange otherwise.
func checkNoTrain(t *testing.T, l impl.Layout, firsts []int64, sensors []int64, front int64, length int64, code int64) {
	t.Helper()
	checkRear(t, l, front, length, 0, code)
	checkOccupied(t, l, firsts, front, length, nil, code)
	checkLoads(t, l, firsts, []int64{front}, length, nil, code)
	checkCovered(t, l, sensors, front, length, nil, code)
	checkGap(t, l, front, 0, length, 0, code)
	checkGap(t, l, 0, front, length, 0, code)
	checkGap(t, l, front, front, length, 0, code)
	checkSeparate(t, l, []int64{front}, length, false)
}

func TestConstantsOfTrains(t *testing.T) {
	for _, c := range []struct{ got, want int64 }{{impl.MaxTrains, 4}, {impl.MaxTrainLength, 40000}, {impl.MaxSensors, 32}} {
		if c.got != c.want {
			t.Errorf("a constant is %d, not %d", c.got, c.want)
		}
	}
}

func TestRears(t *testing.T) {
	for _, c := range []struct{ front, length, want int64 }{
		{0, 1, 0}, {0, 2, 49}, {0, 3, 48}, {0, 50, 1}, {0, 49, 2},
		{1, 1, 1}, {1, 2, 0}, {1, 3, 49}, {30, 1, 30}, {30, 30, 1}, {30, 31, 0}, {30, 32, 49}, {30, 50, 31},
		{49, 1, 49}, {49, 2, 48}, {49, 49, 1}, {49, 50, 0},
	} {
		checkRear(t, hills(), c.front, c.length, c.want, impl.ErrNone)
	}
	checkRear(t, greatest(), 0, 1, 0, impl.ErrNone)
	checkRear(t, greatest(), 0, impl.MaxTrainLength, 4760001, impl.ErrNone)
	checkRear(t, greatest(), 39999, impl.MaxTrainLength, 0, impl.ErrNone)
	checkRear(t, greatest(), 39998, impl.MaxTrainLength, 4799999, impl.ErrNone)
	checkRear(t, greatest(), 4799999, impl.MaxTrainLength, 4760000, impl.ErrNone)
}

func TestMovedFronts(t *testing.T) {
	for _, c := range []struct{ front, distance, want int64 }{
		{0, 0, 0}, {0, 1, 1}, {0, 49, 49}, {0, 50, 0}, {1, 48, 49}, {1, 49, 0}, {1, 50, 1},
		{30, 0, 30}, {30, 19, 49}, {30, 20, 0}, {30, 21, 1}, {30, 50, 30}, {49, 0, 49}, {49, 1, 0}, {49, 49, 48}, {49, 50, 49},
	} {
		checkMove(t, hills(), c.front, c.distance, c.want, impl.ErrNone)
	}
	checkMove(t, greatest(), 4799999, 4800000, 4799999, impl.ErrNone)
	checkMove(t, greatest(), 4799999, 4799999, 4799998, impl.ErrNone)
	checkMove(t, greatest(), 1, 4800000, 1, impl.ErrNone)
}

// TestRearsMoveWithFronts checks each train and each distance on a short circuit.
func TestRearsMoveWithFronts(t *testing.T) {
	for _, l := range []impl.Layout{hills(), circuit(station(1), station(1), station(1)), level(17)} {
		track := trackOf(t, l)
		for front := range track {
			for length := int64(1); length <= track; length++ {
				covered := coveredBy(track, front, length)
				rear := covered[length-1]
				checkRear(t, l, front, length, rear, impl.ErrNone)
				// The front of a train of the same positions is as far ahead of its rear.
				checkMove(t, l, rear, length-1, front, impl.ErrNone)
				for distance := range track + 1 {
					moved, _ := impl.MoveFront(l, front, distance)
					behind, _ := impl.MoveFront(l, rear, distance)
					checkRear(t, l, moved, length, behind, impl.ErrNone)
				}
			}
			for distance, want := range walk(track, front, track+1, 1) {
				checkMove(t, l, front, int64(distance), want, impl.ErrNone)
			}
		}
	}
}

func TestRearsMoveWithFrontsOnLongCircuits(t *testing.T) {
	l := greatest()
	track := trackOf(t, l)
	for _, front := range []int64{0, 1, 39999, 40000, 200000, track / 2, track - 40000, track - 1} {
		for _, length := range []int64{1, 2, 12345, impl.MaxTrainLength - 1, impl.MaxTrainLength} {
			for _, distance := range []int64{0, 1, 39999, 40000, 40001, track - 40000, track - 1, track} {
				rear, _ := impl.RearOf(l, front, length)
				moved, _ := impl.MoveFront(l, front, distance)
				behind, code := impl.MoveFront(l, rear, distance)
				checkRear(t, l, moved, length, behind, code)
				checkMove(t, l, behind, length-1, moved, impl.ErrNone)
			}
		}
	}
}

// TestLengthsOfTrains checks that a train is at most as long as its track and as MaxTrainLength.
func TestLengthsOfTrains(t *testing.T) {
	sensors := []int64{0, 3}
	for _, track := range []int64{5, 6, 50, impl.MaxTrainLength - 1, impl.MaxTrainLength, impl.MaxTrainLength + 1, impl.MaxLength} {
		l, longest := level(track), min(track, impl.MaxTrainLength)
		for _, length := range []int64{1, 2, longest - 1, longest} {
			for _, front := range []int64{0, 1, track - 2, track - 1} {
				checkRear(t, l, front, length, (front+1-length+track)%track, impl.ErrNone)
				checkSeparate(t, l, []int64{front}, length, true)
			}
		}
		for _, length := range []int64{0, -1, -longest, longest + 1, longest + 2, 2 * longest, track + 1, impl.MaxTrainLength + 1, math.MaxInt64, math.MinInt64} {
			checkNoTrain(t, l, levelBlocks, sensors, 0, length, impl.ErrRange)
			checkNoTrain(t, l, levelBlocks, sensors, track-1, length, impl.ErrRange)
			checkLoads(t, l, levelBlocks, nil, length, nil, impl.ErrRange)
			checkSeparate(t, l, nil, length, false)
		}
	}
}

func TestFrontsOutsideOfTheTrack(t *testing.T) {
	for _, l := range []impl.Layout{level(5), level(50), level(impl.MaxLength)} {
		track := trackOf(t, l)
		for _, front := range append([]int64{track, track + 1, 2 * track}, far...) {
			checkNoTrain(t, l, levelBlocks, nil, front, 1, impl.ErrRange)
			checkNoTrain(t, l, levelBlocks, []int64{0, 1}, front, 3, impl.ErrRange)
			checkNoTrain(t, l, levelBlocks, nil, front, 0, impl.ErrRange)
			for _, distance := range []int64{0, 1, track, track + 1} {
				checkMove(t, l, front, distance, 0, impl.ErrRange)
				checkPassed(t, l, nil, front, distance, nil, impl.ErrRange)
				checkPassed(t, l, []int64{0, track - 1}, front, distance, nil, impl.ErrRange)
			}
			for _, fronts := range [][]int64{{0, front}, {front, 0}, {0, 2, front}, {0, 1, 2, front}, {0, front, 0, 0}} {
				checkSeparate(t, l, fronts, 1, false)
				checkLoads(t, l, levelBlocks, fronts, 1, nil, impl.ErrRange)
			}
		}
	}
}

func TestDistancesOutsideOfTheRange(t *testing.T) {
	for _, l := range []impl.Layout{level(5), hills(), greatest()} {
		track := trackOf(t, l)
		for _, front := range []int64{0, 1, track - 1} {
			checkMove(t, l, front, track, front, impl.ErrNone)
			checkPassed(t, l, []int64{front}, front, track, []int64{0}, impl.ErrNone)
			for _, distance := range append([]int64{track + 1, track + 2, 2 * track}, far...) {
				if distance >= 0 && distance <= track {
					continue
				}
				checkMove(t, l, front, distance, 0, impl.ErrRange)
				checkPassed(t, l, nil, front, distance, nil, impl.ErrRange)
				checkPassed(t, l, []int64{front}, front, distance, nil, impl.ErrRange)
			}
		}
	}
}

// TestTrainsOverBlocks has trains that cover exactly a block, and one position more.
func TestTrainsOverBlocks(t *testing.T) {
	three := []int64{0, 1, 6}
	for _, c := range []struct {
		front, length int64
		want          []int64
	}{
		{6, 7, []int64{0}}, {6, 6, []int64{0}}, {6, 8, []int64{0, 2}}, {7, 8, []int64{0, 1}}, {7, 7, []int64{0, 1}}, {7, 1, []int64{1}}, {7, 2, []int64{0, 1}},
		{45, 39, []int64{1}}, {45, 40, []int64{0, 1}}, {46, 40, []int64{1, 2}}, {45, 46, []int64{0, 1}}, {45, 47, []int64{0, 1, 2}}, {46, 41, []int64{0, 1, 2}},
		{49, 4, []int64{2}}, {49, 5, []int64{1, 2}}, {0, 5, []int64{0, 2}}, {0, 1, []int64{0}}, {0, 2, []int64{0, 2}}, {0, 6, []int64{0, 1, 2}},
		{49, 1, []int64{2}}, {49, 50, []int64{0, 1, 2}}, {0, 50, []int64{0, 1, 2}}, {20, 50, []int64{0, 1, 2}},
		{2, 11, []int64{0, 1, 2}}, {8, 50, []int64{0, 1, 2}}, {8, 48, []int64{0, 1, 2}}, {6, 11, []int64{0, 2}}, {6, 12, []int64{0, 1, 2}},
	} {
		checkOccupied(t, hills(), three, c.front, c.length, c.want, impl.ErrNone)
	}
	// Both ends of these trains are in one block, and lie in different parts of the track.
	checkOccupied(t, hills(), []int64{0, 1}, 3, 48, []int64{0, 1}, impl.ErrNone)
	checkOccupied(t, hills(), []int64{0, 1}, 20, 40, []int64{0, 1}, impl.ErrNone)
	checkOccupied(t, hills(), []int64{0, 6}, 48, 49, []int64{0, 1}, impl.ErrNone)
	checkOccupied(t, hills(), []int64{0, 6}, 45, 46, []int64{0}, impl.ErrNone)
	checkOccupied(t, hills(), []int64{0, 6}, 45, 47, []int64{0, 1}, impl.ErrNone)
}

// occupied returns the blocks that a train occupies, by their definition.
func occupied(l impl.Layout, firsts []int64, track int64, front int64, length int64) []int64 {
	var list []int64
	for _, position := range coveredBy(track, front, length) {
		block, _ := impl.BlockAt(l, firsts, position)
		list = append(list, block)
	}
	slices.Sort(list)
	return slices.Compact(list)
}

// TestEachTrainOverBlocks checks each train on short circuits, with all blocks that these have.
func TestEachTrainOverBlocks(t *testing.T) {
	eight := circuit(slices.Repeat([]impl.Segment{station(2)}, impl.MaxBlocks)...)
	for _, l := range []impl.Layout{hills(), circuit(station(1), station(1), station(1)), level(12), eight} {
		track := trackOf(t, l)
		for _, firsts := range blockLists(l) {
			for front := range track {
				for length := int64(1); length <= track; length++ {
					want := occupied(l, firsts, track, front, length)
					checkOccupied(t, l, firsts, front, length, want, impl.ErrNone)
					loads := make([]int64, len(firsts))
					for _, block := range want {
						loads[block] = 1
					}
					checkLoads(t, l, firsts, []int64{front}, length, loads, impl.ErrNone)
				}
			}
		}
	}
}

// TestTheLongestTrainsOverBlocks has blocks that are longer than the longest train.
func TestTheLongestTrainsOverBlocks(t *testing.T) {
	l, firsts := greatest(), rising(impl.MaxBlocks)
	for block := range int64(impl.MaxBlocks - 1) {
		last := (block+1)*impl.MaxLength - 1
		checkOccupied(t, l, firsts, last, impl.MaxTrainLength, []int64{block}, impl.ErrNone)
		checkOccupied(t, l, firsts, last+1, impl.MaxTrainLength, []int64{block, block + 1}, impl.ErrNone)
		checkOccupied(t, l, firsts, last+impl.MaxTrainLength-1, impl.MaxTrainLength, []int64{block, block + 1}, impl.ErrNone)
		checkOccupied(t, l, firsts, last+impl.MaxTrainLength, impl.MaxTrainLength, []int64{block + 1}, impl.ErrNone)
	}
	checkOccupied(t, l, firsts, 0, impl.MaxTrainLength, []int64{0, impl.MaxBlocks - 1}, impl.ErrNone)
	checkOccupied(t, l, firsts, 39998, impl.MaxTrainLength, []int64{0, impl.MaxBlocks - 1}, impl.ErrNone)
	checkOccupied(t, l, firsts, 39999, impl.MaxTrainLength, []int64{0}, impl.ErrNone)
}

func TestGaps(t *testing.T) {
	for _, c := range []struct{ front, other, length, want, code int64 }{
		// Trains that touch, and trains that share one position.
		{10, 20, 10, 0, impl.ErrNone}, {20, 10, 10, 30, impl.ErrNone}, {10, 19, 10, 0, impl.ErrState}, {19, 10, 10, 0, impl.ErrState},
		{45, 5, 10, 0, impl.ErrNone}, {5, 45, 10, 30, impl.ErrNone}, {45, 4, 10, 0, impl.ErrState}, {4, 45, 10, 0, impl.ErrState},
		{0, 1, 1, 0, impl.ErrNone}, {1, 0, 1, 48, impl.ErrNone}, {49, 0, 1, 0, impl.ErrNone}, {0, 49, 1, 48, impl.ErrNone},
		// A gap of 0 in both directions, and trains that are longer than half of the track.
		{0, 25, 25, 0, impl.ErrNone}, {25, 0, 25, 0, impl.ErrNone}, {24, 49, 25, 0, impl.ErrNone}, {49, 24, 25, 0, impl.ErrNone},
		{0, 24, 25, 0, impl.ErrState}, {0, 26, 25, 0, impl.ErrState}, {0, 25, 26, 0, impl.ErrState}, {0, 25, 50, 0, impl.ErrState}, {0, 25, 24, 1, impl.ErrNone},
		{0, 24, 24, 0, impl.ErrNone}, {24, 0, 24, 2, impl.ErrNone}, {0, 49, 2, 0, impl.ErrState}, {0, 48, 2, 46, impl.ErrNone},
		// A train and itself.
		{7, 7, 1, 0, impl.ErrState}, {0, 0, 1, 0, impl.ErrState}, {49, 49, 50, 0, impl.ErrState}, {0, 0, 50, 0, impl.ErrState},
	} {
		checkGap(t, hills(), c.front, c.other, c.length, c.want, c.code)
		checkSeparate(t, hills(), []int64{c.front, c.other}, c.length, c.code == impl.ErrNone)
	}
	checkGap(t, level(2*impl.MaxTrainLength), 0, impl.MaxTrainLength, impl.MaxTrainLength, 0, impl.ErrNone)
	checkGap(t, level(2*impl.MaxTrainLength), impl.MaxTrainLength, 0, impl.MaxTrainLength, 0, impl.ErrNone)
	checkGap(t, level(2*impl.MaxTrainLength-1), 0, impl.MaxTrainLength, impl.MaxTrainLength, 0, impl.ErrState)
	checkGap(t, level(2*impl.MaxTrainLength-1), impl.MaxTrainLength, 0, impl.MaxTrainLength, 0, impl.ErrState)
	checkGap(t, greatest(), 4799999, 39999, impl.MaxTrainLength, 0, impl.ErrNone)
	checkGap(t, greatest(), 39999, 4799999, impl.MaxTrainLength, 4800000-2*impl.MaxTrainLength, impl.ErrNone)
}

// apart reports whether no position is covered by two trains, by their definition.
func apart(track int64, fronts []int64, length int64) bool {
	seen := make([]bool, track)
	for _, front := range fronts {
		for _, position := range coveredBy(track, front, length) {
			if seen[position] {
				return false
			}
			seen[position] = true
		}
	}
	return true
}

// TestGapsAndLengthsAddUpToTheTrack checks all pairs of trains on short circuits.
func TestGapsAndLengthsAddUpToTheTrack(t *testing.T) {
	for _, l := range []impl.Layout{circuit(station(1), station(1), station(1)), level(5), level(16), level(17)} {
		track := trackOf(t, l)
		for length := int64(1); length <= track; length++ {
			for front := range track {
				for other := range track {
					if !apart(track, []int64{front, other}, length) {
						checkGap(t, l, front, other, length, 0, impl.ErrState)
						checkSeparate(t, l, []int64{front, other}, length, false)
						continue
					}
					checkSeparate(t, l, []int64{front, other}, length, true)
					ahead, _ := impl.GapAhead(l, front, other, length)
					behind, code := impl.GapAhead(l, other, front, length)
					if ahead < 0 || behind < 0 || ahead+behind+2*length != track || code != impl.ErrNone {
						t.Fatalf("the gaps of %d and %d of the length %d on %d are %d and %d", front, other, length, track, ahead, behind)
					}
					// The rear of the other train comes behind the positions of the gap.
					rear, _ := impl.RearOf(l, other, length)
					checkMove(t, l, front, ahead+1, rear, impl.ErrNone)
				}
			}
		}
	}
}

func TestSeparateTrains(t *testing.T) {
	for _, c := range []struct {
		fronts []int64
		length int64
		want   bool
	}{
		{nil, 1, true}, {nil, 50, true}, {[]int64{}, 17, true}, {[]int64{0}, 1, true}, {[]int64{49}, 50, true}, {[]int64{0}, 50, true},
		{[]int64{9, 19, 29, 39}, 10, true}, {[]int64{39, 9, 29, 19}, 10, true}, {[]int64{0, 13, 26, 38}, 12, true},
		{[]int64{0, 13, 26, 37}, 12, false}, {[]int64{9, 19, 29, 38}, 10, false}, {[]int64{9, 19, 28, 39}, 10, false}, {[]int64{39, 28, 19, 9}, 10, false}, {[]int64{9, 18, 29, 39}, 10, false},
		// Only the first and the last train share a position, across the end of the circuit.
		{[]int64{8, 19, 29, 49}, 10, false}, {[]int64{9, 19, 29, 49}, 10, true}, {[]int64{49, 29, 19, 8}, 10, false},
		{[]int64{0, 1, 2, 3}, 1, true}, {[]int64{48, 49, 0, 1}, 1, true}, {[]int64{48, 49, 0, 48}, 1, false}, {[]int64{5, 4, 3, 3}, 1, false}, {[]int64{3, 3, 4, 5}, 1, false},
		{[]int64{7, 7}, 1, false}, {[]int64{7, 8}, 2, false}, {[]int64{7, 9}, 2, true}, {[]int64{0, 25}, 25, true}, {[]int64{0, 25}, 26, false}, {[]int64{0, 16, 33}, 16, true}, {[]int64{0, 16, 33}, 17, false},
		// Five trains are too many, although they are separate.
		{[]int64{0, 10, 20, 30, 40}, 1, false}, {[]int64{0, 10, 20, 30}, 1, true}, {[]int64{0, 10, 20, 30, 40}, 10, false},
	} {
		checkSeparate(t, hills(), c.fronts, c.length, c.want)
	}
	checkSeparate(t, greatest(), slices.Repeat([]int64{0}, 100000), 1, false)
	checkSeparate(t, greatest(), []int64{39999, 79999, 119999, 4799999}, impl.MaxTrainLength, true)
	checkSeparate(t, greatest(), []int64{39998, 79999, 119999, 4799999}, impl.MaxTrainLength, false)
}

// TestEachGroupOfTrains checks all groups of three trains on a short circuit, and of four with
// lengths at which they just fit, or do not fit by one.
func TestEachGroupOfTrains(t *testing.T) {
	l, track := level(12), int64(12)
	for a := range track {
		for b := range track {
			for c := range track {
				for length := int64(1); length <= 5; length++ {
					checkSeparate(t, l, []int64{a, b, c}, length, apart(track, []int64{a, b, c}, length))
				}
				for d := range track {
					checkSeparate(t, l, []int64{a, b, c, d}, 3, apart(track, []int64{a, b, c, d}, 3))
				}
			}
		}
	}
}

func TestLoadsOfBlocks(t *testing.T) {
	three := []int64{0, 1, 6}
	for _, c := range []struct {
		fronts []int64
		length int64
		want   []int64
	}{
		{nil, 1, []int64{0, 0, 0}}, {[]int64{}, 50, []int64{0, 0, 0}},
		{[]int64{6}, 7, []int64{1, 0, 0}}, {[]int64{6, 45}, 7, []int64{1, 1, 0}}, {[]int64{6, 45, 49}, 4, []int64{1, 1, 1}},
		{[]int64{6, 46, 0}, 7, []int64{2, 2, 2}}, {[]int64{0, 6, 7, 8}, 2, []int64{3, 2, 1}},
		{[]int64{20, 30, 40, 45}, 5, []int64{0, 4, 0}}, {[]int64{20, 20, 20, 20}, 5, []int64{0, 4, 0}}, {[]int64{0, 0, 0, 0}, 50, []int64{4, 4, 4}},
		{[]int64{49, 0, 7, 46}, 1, []int64{1, 1, 2}},
	} {
		checkLoads(t, hills(), three, c.fronts, c.length, c.want, impl.ErrNone)
	}
	// Trains that come to one block with both ends occupy it once.
	checkLoads(t, hills(), []int64{0, 1}, []int64{3, 20}, 48, []int64{2, 2}, impl.ErrNone)
	checkLoads(t, greatest(), rising(impl.MaxBlocks), []int64{0, 200000, 4799999, 39999}, impl.MaxTrainLength, []int64{3, 1, 0, 0, 0, 0, 0, 2}, impl.ErrNone)
	// Trains that are too many come before trains outside of the range.
	for _, fronts := range [][]int64{make([]int64, 5), {0, 10, 20, 30, 40}, {0, 1, 2, 3, -1}, {50, 50, 50, 50, 50}, make([]int64, 100000)} {
		for _, length := range []int64{0, 1, 50, 51, -1, math.MaxInt64, math.MinInt64} {
			checkLoads(t, hills(), three, fronts, length, nil, impl.ErrLimit)
		}
	}
	checkLoads(t, hills(), three, []int64{0, 1, 2, -1}, 1, nil, impl.ErrRange)
}

// TestLoadsAreSumsOfTrains checks groups of trains against the blocks that each of them occupies.
func TestLoadsAreSumsOfTrains(t *testing.T) {
	for _, l := range []impl.Layout{hills(), holders(3)} {
		track := trackOf(t, l)
		for _, firsts := range blockLists(l) {
			for front := range track {
				fronts := []int64{front, front * 3 % track, (front + 4) % track, front * front % track}
				for _, length := range []int64{1, 4, 7, 13, track - 3, track} {
					for count := range len(fronts) + 1 {
						want := make([]int64, len(firsts))
						for _, x := range fronts[:count] {
							for _, block := range occupied(l, firsts, track, x, length) {
								want[block]++
							}
						}
						checkLoads(t, l, firsts, fronts[:count], length, want, impl.ErrNone)
					}
				}
			}
		}
	}
}

// placesOf returns the indices of positions in a list of sensors, in the order of the positions.
func placesOf(sensors []int64, positions []int64) []int64 {
	var list []int64
	for _, position := range positions {
		if i, found := slices.BinarySearch(sensors, position); found {
			list = append(list, int64(i))
		}
	}
	return list
}

// sensorLists returns lists of sensors on a track of at least 32 positions.
func sensorLists(track int64) [][]int64 {
	all := rising(impl.MaxSensors)
	late := make([]int64, impl.MaxSensors)
	for i := range late {
		late[i] = track - impl.MaxSensors + int64(i)
	}
	return [][]int64{nil, {}, {0}, {track - 1}, {7}, {0, track - 1}, {0, 1}, {track - 2, track - 1}, {3, 9, 20, 21, 22, 30}, all, late, append(rising(31), track-1)}
}

func TestCoveredSensors(t *testing.T) {
	l, sensors := hills(), []int64{5, 10, 20, 30, 45}
	for _, c := range []struct {
		front, length int64
		want          []int64
	}{
		// A sensor at the front, at the rear and one beyond each.
		{20, 1, []int64{2}}, {19, 1, nil}, {21, 1, nil}, {20, 5, []int64{2}}, {19, 5, nil}, {24, 5, []int64{2}}, {25, 5, nil},
		{20, 11, []int64{1, 2}}, {20, 10, []int64{2}}, {19, 10, []int64{1}}, {30, 26, []int64{0, 1, 2, 3}}, {30, 25, []int64{1, 2, 3}}, {29, 25, []int64{0, 1, 2}},
		// Trains across the end of the circuit: the indices increase nevertheless.
		{5, 11, []int64{0, 4}}, {5, 10, []int64{0}}, {4, 10, []int64{4}}, {4, 9, nil}, {0, 6, []int64{4}}, {0, 5, nil}, {49, 5, []int64{4}}, {49, 4, nil},
		{15, 36, []int64{0, 1, 3, 4}}, {15, 35, []int64{0, 1, 4}}, {25, 50, []int64{0, 1, 2, 3, 4}}, {20, 50, []int64{0, 1, 2, 3, 4}}, {19, 49, []int64{0, 1, 3, 4}}, {0, 50, []int64{0, 1, 2, 3, 4}}, {49, 50, []int64{0, 1, 2, 3, 4}},
	} {
		checkCovered(t, l, sensors, c.front, c.length, c.want, impl.ErrNone)
	}
	ends := []int64{0, 4799999}
	checkCovered(t, greatest(), ends, 0, 1, []int64{0}, impl.ErrNone)
	checkCovered(t, greatest(), ends, 0, 2, []int64{0, 1}, impl.ErrNone)
	checkCovered(t, greatest(), ends, 4799999, impl.MaxTrainLength, []int64{1}, impl.ErrNone)
	checkCovered(t, greatest(), ends, 39999, impl.MaxTrainLength, []int64{0}, impl.ErrNone)
	checkCovered(t, greatest(), ends, 39998, impl.MaxTrainLength, []int64{0, 1}, impl.ErrNone)
}

func TestEachTrainOverSensors(t *testing.T) {
	for _, l := range []impl.Layout{hills(), level(32), level(33)} {
		track := trackOf(t, l)
		for _, sensors := range sensorLists(track) {
			for front := range track {
				for length := int64(1); length <= track; length++ {
					want := placesOf(sensors, coveredBy(track, front, length))
					slices.Sort(want)
					checkCovered(t, l, sensors, front, length, want, impl.ErrNone)
				}
			}
		}
	}
}

// TestMovedTrainsCoverAsManyPositions has a sensor at each position.
func TestMovedTrainsCoverAsManyPositions(t *testing.T) {
	l, sensors := level(impl.MaxSensors), rising(impl.MaxSensors)
	for length := int64(1); length <= impl.MaxSensors; length++ {
		for distance := range int64(impl.MaxSensors + 1) {
			front, _ := impl.MoveFront(l, 11, distance)
			if covered, code := impl.SensorsCovered(l, sensors, front, length); int64(len(covered)) != length || code != impl.ErrNone {
				t.Errorf("the train %d of the length %d covers %v, %d", front, length, covered, code)
			}
		}
	}
}

func TestPassedSensors(t *testing.T) {
	l, sensors := hills(), []int64{5, 10, 20, 30, 45}
	for _, c := range []struct {
		front, distance int64
		want            []int64
	}{
		{5, 0, nil}, {5, 1, nil}, {5, 4, nil}, {5, 5, []int64{1}}, {5, 14, []int64{1}}, {5, 15, []int64{1, 2}}, {4, 0, nil}, {4, 1, []int64{0}}, {4, 6, []int64{0, 1}},
		{5, 49, []int64{1, 2, 3, 4}}, {5, 50, []int64{1, 2, 3, 4, 0}}, {6, 48, []int64{1, 2, 3, 4}}, {6, 49, []int64{1, 2, 3, 4, 0}}, {6, 50, []int64{1, 2, 3, 4, 0}},
		{45, 0, nil}, {45, 9, nil}, {45, 10, []int64{0}}, {45, 15, []int64{0, 1}}, {45, 49, []int64{0, 1, 2, 3}}, {45, 50, []int64{0, 1, 2, 3, 4}},
		{30, 14, nil}, {30, 15, []int64{4}}, {30, 25, []int64{4, 0}}, {30, 50, []int64{4, 0, 1, 2, 3}}, {30, 49, []int64{4, 0, 1, 2}},
		{0, 50, []int64{0, 1, 2, 3, 4}}, {0, 44, []int64{0, 1, 2, 3}}, {49, 5, nil}, {49, 6, []int64{0}}, {49, 50, []int64{0, 1, 2, 3, 4}}, {49, 0, nil}, {49, 1, nil},
	} {
		checkPassed(t, l, sensors, c.front, c.distance, c.want, impl.ErrNone)
	}
	for _, c := range []struct {
		front, distance int64
		want            []int64
	}{
		{0, 0, nil}, {0, 48, nil}, {0, 49, []int64{1}}, {0, 50, []int64{1, 0}}, {49, 0, nil}, {49, 1, []int64{0}}, {49, 49, []int64{0}}, {49, 50, []int64{0, 1}},
		{48, 1, []int64{1}}, {48, 2, []int64{1, 0}}, {48, 50, []int64{1, 0}}, {1, 47, nil}, {1, 49, []int64{1, 0}},
	} {
		checkPassed(t, l, []int64{0, 49}, c.front, c.distance, c.want, impl.ErrNone)
	}
}

func TestEachMoveOverSensors(t *testing.T) {
	for _, l := range []impl.Layout{hills(), level(32), level(33)} {
		track := trackOf(t, l)
		for _, sensors := range sensorLists(track) {
			for front := range track {
				for distance := range track + 1 {
					want := placesOf(sensors, walk(track, front, distance+1, 1)[1:])
					checkPassed(t, l, sensors, front, distance, want, impl.ErrNone)
				}
			}
		}
	}
}

// checkNoSensors checks what the functions return for a list that is not sensors, also for trains
// and distances outside of their ranges, whose ErrRange comes after ErrInvalid.
func checkNoSensors(t *testing.T, l impl.Layout, sensors []int64) {
	t.Helper()
	for _, n := range slices.Concat(near, far) {
		checkCovered(t, l, sensors, 0, n, nil, impl.ErrInvalid)
		checkCovered(t, l, sensors, n, 1, nil, impl.ErrInvalid)
		checkPassed(t, l, sensors, 0, n, nil, impl.ErrInvalid)
		checkPassed(t, l, sensors, n, 0, nil, impl.ErrInvalid)
	}
}

func TestListsOfSensors(t *testing.T) {
	for _, sensors := range [][]int64{
		{5, 5}, {0, 0}, {6, 5}, {1, 2, 3, 3}, {1, 3, 2}, {49, 0}, {49, 48}, {0, 10, 20, 20, 30},
		{-1}, {-1, 0}, {-1, 5, 9}, {math.MinInt64}, {math.MinInt64, 1}, {50}, {0, 50}, {49, 50}, {0, 51}, {100}, {math.MaxInt64}, {0, math.MaxInt64}, {1, 2, -3},
		rising(impl.MaxSensors + 1), rising(50), rising(51), make([]int64, 100000),
	} {
		checkNoSensors(t, hills(), sensors)
	}
	for count := range impl.MaxSensors + 1 {
		checkCovered(t, hills(), rising(count), 49, 50, rising(count), impl.ErrNone)
		checkPassed(t, hills(), rising(count), 49, 50, rising(count), impl.ErrNone)
	}
	checkCovered(t, hills(), nil, 49, 50, nil, impl.ErrNone)
	checkPassed(t, hills(), nil, 49, 50, nil, impl.ErrNone)
}

// TestTrainsOnInvalidLayouts checks that the layout comes before everything else.
func TestTrainsOnInvalidLayouts(t *testing.T) {
	for _, l := range brokenLayouts() {
		for _, n := range slices.Concat(near, far) {
			for _, m := range []int64{0, 1, 50, 51, -1, impl.MaxTrainLength + 1} {
				checkNoTrain(t, l, []int64{0, 1}, []int64{0, 1}, n, m, impl.ErrInvalid)
				checkMove(t, l, n, m, 0, impl.ErrInvalid)
				checkPassed(t, l, nil, n, m, nil, impl.ErrInvalid)
				checkLoads(t, l, []int64{0, 1}, []int64{n, n, n, n, n}, m, nil, impl.ErrInvalid)
				checkSeparate(t, l, nil, m, false)
			}
		}
		checkNoSensors(t, l, nil)
		checkNoSensors(t, l, []int64{5, 5})
	}
}

// TestTrainsOverNoBlocks checks that the blocks come before the number, the fronts and the length
// of trains.
func TestTrainsOverNoBlocks(t *testing.T) {
	for _, firsts := range [][]int64{nil, {}, {0}, {1, 6}, {0, 2}, {0, 1, 7}, {0, 0}, {0, 6, 1}, {-1, 0}, rising(9)} {
		for _, n := range slices.Concat(near, far) {
			for _, length := range []int64{0, 1, 50, 51, -1, impl.MaxTrainLength + 1} {
				checkOccupied(t, hills(), firsts, n, length, nil, impl.ErrInvalid)
				checkLoads(t, hills(), firsts, nil, length, nil, impl.ErrInvalid)
				checkLoads(t, hills(), firsts, []int64{n}, length, nil, impl.ErrInvalid)
				checkLoads(t, hills(), firsts, []int64{n, n, n, n, n}, length, nil, impl.ErrInvalid)
			}
		}
	}
}

// spoil overwrites a list and the spare capacity behind it.
func spoil(list []int64) {
	for i := range list[:cap(list)] {
		list[:cap(list)][i] = -5
	}
}

func TestArgumentsOfTrainsAreNotChanged(t *testing.T) {
	numbers := []int64{0, 1, 6, 77, 78}
	segments := append(hills().Segments, plain(77, 7))
	keptNumbers, keptSegments := slices.Clone(numbers), slices.Clone(segments)
	l, list := circuit(segments[:7]...), numbers[:3]
	for n := range int64(51) {
		impl.RearOf(l, n, 10)
		impl.MoveFront(l, 3, n)
		impl.GapAhead(l, 3, n, 10)
		impl.AreSeparate(l, list, n)
		for range 2 {
			// A result that shared memory with an argument, or with one from before, would change it.
			blocks, _ := impl.OccupiedBlocks(l, list, n, 10)
			loads, _ := impl.BlockLoads(l, list, list, n)
			covered, _ := impl.SensorsCovered(l, list, n, 50)
			passed, _ := impl.SensorsPassed(l, list, 49, n)
			for _, result := range [][]int64{blocks, loads, covered, passed} {
				spoil(result)
			}
		}
	}
	if !slices.Equal(numbers, keptNumbers) || !slices.Equal(segments, keptSegments) {
		t.Errorf("the lists became %v, the layout %v", numbers, segments)
	}
	checkOccupied(t, l, list, 0, 6, []int64{0, 1, 2}, impl.ErrNone)
	checkCovered(t, l, list, 49, 50, []int64{0, 1, 2}, impl.ErrNone)
	checkPassed(t, l, list, 0, 50, []int64{1, 2, 0}, impl.ErrNone)
}

// TestResultsDoNotDependOnTheRun repeats calls whose blocks could come in another order.
func TestResultsDoNotDependOnTheRun(t *testing.T) {
	l, firsts := circuit(slices.Repeat([]impl.Segment{station(2)}, impl.MaxBlocks)...), rising(impl.MaxBlocks)
	for range 100 {
		checkOccupied(t, l, firsts, 5, 16, firsts, impl.ErrNone)
		checkOccupied(t, l, firsts, 3, 8, []int64{0, 1, 6, 7}, impl.ErrNone)
	}
	if text := fmt.Sprint(impl.OccupiedBlocks(l, firsts, 3, 6)); text != "[0 1 7] 0" {
		t.Errorf("the train occupies %s", text)
	}
}
