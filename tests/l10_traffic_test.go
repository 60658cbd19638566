package tests

import (
	"iter"
	"math"
	"slices"
	"strconv"
	"testing"

	"loop.example/g00916/impl"
)

func traffic(blocks int64, places ...int64) impl.Traffic {
	return impl.Traffic{Blocks: blocks, Places: places}
}

func sameTraffic(x impl.Traffic, y impl.Traffic) bool {
	return x.Blocks == y.Blocks && slices.Equal(x.Places, y.Places)
}

// trafficsOf produces all traffics of some blocks with some trains.
func trafficsOf(blocks int64, trains int) iter.Seq[impl.Traffic] {
	return func(yield func(impl.Traffic) bool) {
		places := make([]int64, trains)
		for {
			if !yield(traffic(blocks, slices.Clone(places)...)) {
				return
			}
			i := 0
			for ; i < trains && places[i] == 3*blocks-1; i++ {
				places[i] = 0
			}
			if i == trains {
				return
			}
			places[i]++
		}
	}
}

// smallTraffics produces all traffics with up to three trains, and those of up to 5 blocks with four.
func smallTraffics() iter.Seq[impl.Traffic] {
	return func(yield func(impl.Traffic) bool) {
		for blocks := int64(2); blocks <= impl.MaxBlocks; blocks++ {
			for trains := 1; trains <= impl.MaxTrains; trains++ {
				if trains == 4 && blocks > 5 {
					continue
				}
				for x := range trafficsOf(blocks, trains) {
					if !yield(x) {
						return
					}
				}
			}
		}
	}
}

// usesBy returns the trains that use each block, by the definition.
func usesBy(x impl.Traffic) [][]int64 {
	users := make([][]int64, x.Blocks)
	for block := range x.Blocks {
		before := block - 1
		if block == 0 {
			before = x.Blocks - 1
		}
		for train, place := range x.Places {
			if place == 3*block || place == 3*block+1 || place == 3*block+2 || place == 3*before+2 {
				users[block] = append(users[block], int64(train))
			}
		}
	}
	return users
}

// countsBy returns the number of trains that use each block, by the definition.
func countsBy(x impl.Traffic) []int64 {
	var counts []int64
	for _, users := range usesBy(x) {
		counts = append(counts, int64(len(users)))
	}
	return counts
}

// blocksUsedBy returns the blocks that a train uses, by the definition.
func blocksUsedBy(x impl.Traffic, train int64) []int64 {
	var list []int64
	for block, users := range usesBy(x) {
		if slices.Contains(users, train) {
			list = append(list, int64(block))
		}
	}
	return list
}

// isSafeBy reports whether no block of a valid traffic is used by two trains, by the definition.
func isSafeBy(x impl.Traffic) bool {
	for _, users := range usesBy(x) {
		if len(users) > 1 {
			return false
		}
	}
	return true
}

// movedBy returns a valid traffic behind a move, by the definition.
func movedBy(x impl.Traffic, train int64) impl.Traffic {
	places := slices.Clone(x.Places)
	if places[train]++; places[train] == 3*x.Blocks {
		places[train] = 0
	}
	return traffic(x.Blocks, places...)
}

// allowedBy returns the moves that are allowed in a safe traffic, by the definition.
func allowedBy(x impl.Traffic) []int64 {
	var list []int64
	for train := range int64(len(x.Places)) {
		if isSafeBy(movedBy(x, train)) {
			list = append(list, train)
		}
	}
	return list
}

// textBy returns the text of a valid traffic, by the definition.
func textBy(x impl.Traffic) string {
	text := strconv.FormatInt(x.Blocks, 10)
	for _, place := range x.Places {
		text += " " + strconv.FormatInt(place/3, 10) + string("rhc"[place%3])
	}
	return text
}

func checkTraffic(t *testing.T, x impl.Traffic, valid bool, safe bool) {
	t.Helper()
	if got := impl.IsTraffic(x); got != valid {
		t.Errorf("IsTraffic(%v) = %v", x, got)
	}
	if got := impl.IsSafeTraffic(x); got != safe {
		t.Errorf("IsSafeTraffic(%v) = %v", x, got)
	}
}

func checkUsed(t *testing.T, x impl.Traffic, train int64, want []int64, code int64) {
	t.Helper()
	if list, got := impl.UsedBlocks(x, train); !slices.Equal(list, want) || got != code {
		t.Errorf("UsedBlocks(%v, %d) = %v, %d; want %v, %d", x, train, list, got, want, code)
	}
}

func checkUses(t *testing.T, x impl.Traffic, want []int64, code int64) {
	t.Helper()
	if list, got := impl.UsesOfBlocks(x); !slices.Equal(list, want) || got != code {
		t.Errorf("UsesOfBlocks(%v) = %v, %d; want %v, %d", x, list, got, want, code)
	}
}

func checkMovedTrain(t *testing.T, x impl.Traffic, train int64, want impl.Traffic, code int64) {
	t.Helper()
	if y, got := impl.MovedTrain(x, train); !sameTraffic(y, want) || got != code {
		t.Errorf("MovedTrain(%v, %d) = %v, %d; want %v, %d", x, train, y, got, want, code)
	}
}

func checkAllowed(t *testing.T, x impl.Traffic, want []int64, code int64) {
	t.Helper()
	if list, got := impl.AllowedMoves(x); !slices.Equal(list, want) || got != code {
		t.Errorf("AllowedMoves(%v) = %v, %d; want %v, %d", x, list, got, want, code)
	}
}

func checkRun(t *testing.T, x impl.Traffic, trains []int64, want impl.Traffic, code int64) {
	t.Helper()
	if y, got := impl.RunMoves(x, trains); !sameTraffic(y, want) || got != code {
		t.Errorf("RunMoves(%v, %v) = %v, %d; want %v, %d", x, trains, y, got, want, code)
	}
}

// checkTextOfTraffic checks the text of a traffic, and that it is read back.
func checkTextOfTraffic(t *testing.T, x impl.Traffic, want string) {
	t.Helper()
	if s := impl.TrafficText(x); s != want {
		t.Errorf("TrafficText(%v) = %q; want %q", x, s, want)
	}
	if y, ok := impl.ReadTraffic(want); !ok || !sameTraffic(x, y) {
		t.Errorf("ReadTraffic(%q) = %v, %v; want %v", want, y, ok, x)
	}
}

func checkNoTextOfTraffic(t *testing.T, s string) {
	t.Helper()
	if y, ok := impl.ReadTraffic(s); ok || !sameTraffic(y, impl.Traffic{}) {
		t.Errorf("ReadTraffic(%q) = %v, %v", s, y, ok)
	}
}

func TestTraffics(t *testing.T) {
	for _, c := range []struct {
		x    impl.Traffic
		safe bool
	}{
		{traffic(2, 0), true}, {traffic(2, 5), true}, {traffic(impl.MaxBlocks, 0), true}, {traffic(impl.MaxBlocks, 23), true},
		{traffic(2, 0, 3), true}, {traffic(2, 1, 4), true}, {traffic(2, 2, 3), false}, {traffic(2, 2, 5), false}, {traffic(2, 5, 2), false},
		{traffic(2, 0, 5), false}, {traffic(2, 3, 5), false}, {traffic(2, 0, 1), false}, {traffic(2, 4, 4), false},
		// A train behind the one that crosses, in its own block, in the next one and beyond.
		{traffic(3, 5, 0), true}, {traffic(3, 5, 2), false}, {traffic(3, 5, 3), false}, {traffic(3, 5, 4), false}, {traffic(3, 5, 6), false}, {traffic(3, 5, 7), false}, {traffic(3, 5, 8), false},
		{traffic(3, 8, 0), false}, {traffic(3, 1, 8), false}, {traffic(3, 8, 2), false}, {traffic(3, 8, 4), true}, {traffic(3, 4, 8), true}, {traffic(3, 8, 7), false},
		{traffic(4, 0, 3, 6, 9), true}, {traffic(4, 10, 7, 4, 1), true}, {traffic(4, 0, 3, 6, 11), false}, {traffic(4, 0, 3, 6, 6), false}, {traffic(4, 3, 4, 5, 5), false},
		{traffic(5, 14, 3, 6, 9), true}, {traffic(5, 14, 3, 6, 10), true}, {traffic(5, 14, 3, 8, 10), false},
		{traffic(impl.MaxBlocks, 2, 8, 14, 20), true}, {traffic(impl.MaxBlocks, 5, 11, 17, 23), true}, {traffic(impl.MaxBlocks, 2, 11, 17, 23), false}, {traffic(impl.MaxBlocks, 23, 22, 4, 7), false},
	} {
		checkTraffic(t, c.x, true, c.safe)
	}
}

// invalidTraffics are not valid for one reason or for several.
func invalidTraffics() []impl.Traffic {
	list := []impl.Traffic{
		{}, traffic(2), traffic(impl.MaxBlocks), traffic(4), {Blocks: 4, Places: []int64{}},
		traffic(1, 0), traffic(0, 0), traffic(-1, 0), traffic(-2, 0), traffic(1, 0, 1), traffic(1), traffic(0, -1),
		traffic(impl.MaxBlocks+1, 0), traffic(impl.MaxBlocks+1, 26), traffic(impl.MaxBlocks+1, 0, 3, 6, 9, 12), traffic(impl.MaxBlocks+1, -1),
		traffic(math.MaxInt64, 0), traffic(math.MinInt64, 0), traffic(math.MaxInt64/3, 0), traffic(math.MaxInt64/3+1, 0), traffic(1<<62, 0), traffic(1<<32+2, 0),
		traffic(5, 0, 3, 6, 9, 12), traffic(impl.MaxBlocks, 0, 3, 6, 9, 12), traffic(2, 0, 0, 0, 0, 0), {Blocks: 4, Places: make([]int64, 100000)},
		traffic(2, 6), traffic(2, 0, 6), traffic(4, 12), traffic(4, 0, 3, 6, 12), traffic(4, 12, 0), traffic(impl.MaxBlocks, 24), traffic(impl.MaxBlocks, 3, 24, 6),
		traffic(2, 1<<32), traffic(2, 1<<62),
	}
	for _, place := range []int64{-1, -2, -3, -4, 3 * impl.MaxBlocks, math.MaxInt64, math.MaxInt64 - 1, math.MinInt64, math.MinInt64 + 1} {
		list = append(list, traffic(2, place), traffic(impl.MaxBlocks, place), traffic(4, place, 0), traffic(4, 0, 3, 6, place), traffic(4, 0, place, 6, 9))
	}
	return list
}

func TestInvalidTraffics(t *testing.T) {
	for _, x := range invalidTraffics() {
		checkTraffic(t, x, false, false)
		checkUses(t, x, nil, impl.ErrInvalid)
		checkAllowed(t, x, nil, impl.ErrInvalid)
		if s := impl.TrafficText(x); s != "" {
			t.Errorf("TrafficText(%v) = %q", x, s)
		}
		// It comes before trains that there are not, and before too many moves.
		for _, train := range []int64{0, 1, -1, 4, 5, math.MaxInt64, math.MinInt64} {
			checkUsed(t, x, train, nil, impl.ErrInvalid)
			checkMovedTrain(t, x, train, impl.Traffic{}, impl.ErrInvalid)
			for _, count := range []int{0, 1, impl.MaxList, impl.MaxList + 1} {
				checkRun(t, x, slices.Repeat([]int64{train}, count), impl.Traffic{}, impl.ErrInvalid)
			}
		}
	}
}

// TestEachTraffic checks what is used, moved and allowed in all small traffics, safe or not.
func TestEachTraffic(t *testing.T) {
	for x := range smallTraffics() {
		safe := isSafeBy(x)
		checkTraffic(t, x, true, safe)
		checkUses(t, x, countsBy(x), impl.ErrNone)
		if safe {
			checkAllowed(t, x, allowedBy(x), impl.ErrNone)
		} else {
			checkAllowed(t, x, nil, impl.ErrState)
		}
		for train := range int64(len(x.Places)) {
			checkUsed(t, x, train, blocksUsedBy(x, train), impl.ErrNone)
			checkMovedTrain(t, x, train, movedBy(x, train), impl.ErrNone)
		}
	}
}

func TestUsedBlocks(t *testing.T) {
	for _, c := range []struct {
		x     impl.Traffic
		train int64
		want  []int64
	}{
		{traffic(2, 0), 0, []int64{0}}, {traffic(2, 1), 0, []int64{0}}, {traffic(2, 2), 0, []int64{0, 1}}, {traffic(2, 4), 0, []int64{1}}, {traffic(2, 5), 0, []int64{0, 1}},
		{traffic(4, 0, 4, 11, 8), 0, []int64{0}}, {traffic(4, 0, 4, 11, 8), 1, []int64{1}}, {traffic(4, 0, 4, 11, 8), 2, []int64{0, 3}}, {traffic(4, 0, 4, 11, 8), 3, []int64{2, 3}},
		{traffic(impl.MaxBlocks, 20), 0, []int64{6, 7}}, {traffic(impl.MaxBlocks, 21), 0, []int64{7}}, {traffic(impl.MaxBlocks, 22), 0, []int64{7}}, {traffic(impl.MaxBlocks, 23), 0, []int64{0, 7}},
	} {
		checkUsed(t, c.x, c.train, c.want, impl.ErrNone)
	}
	checkUses(t, traffic(4, 0, 4, 11, 8), []int64{2, 1, 1, 2}, impl.ErrNone)
	checkUses(t, traffic(2, 2, 2, 5, 5), []int64{4, 4}, impl.ErrNone)
	checkUses(t, traffic(impl.MaxBlocks, 23), []int64{1, 0, 0, 0, 0, 0, 0, 1}, impl.ErrNone)
}

// TestMissingTrains checks trains that there are not, in traffics that are safe and in others.
func TestMissingTrains(t *testing.T) {
	for _, x := range []impl.Traffic{traffic(2, 0), traffic(2, 0, 0), traffic(4, 1, 4), traffic(4, 1, 4, 7), traffic(4, 0, 3, 6, 9), traffic(impl.MaxBlocks, 5, 5, 5, 5)} {
		count := int64(len(x.Places))
		for _, train := range []int64{-1, -2, -count, count, count + 1, 1 << 32, math.MaxInt64, math.MinInt64, math.MinInt64 + 1} {
			checkUsed(t, x, train, nil, impl.ErrRange)
			checkMovedTrain(t, x, train, impl.Traffic{}, impl.ErrRange)
			checkRun(t, x, []int64{train}, impl.Traffic{}, impl.ErrRange)
			checkRun(t, x, []int64{0, 0, 0, train}, impl.Traffic{}, impl.ErrRange)
			checkRun(t, x, []int64{count - 1, train, 0}, impl.Traffic{}, impl.ErrRange)
		}
	}
}

func TestMovesAroundTheEnd(t *testing.T) {
	for blocks := int64(2); blocks <= impl.MaxBlocks; blocks++ {
		x := traffic(blocks, 0)
		for place := range 3 * blocks {
			next := traffic(blocks, (place+1)%(3*blocks))
			checkMovedTrain(t, x, 0, next, impl.ErrNone)
			checkAllowed(t, x, []int64{0}, impl.ErrNone)
			checkRun(t, x, []int64{0}, next, impl.ErrNone)
			x = next
		}
		checkRun(t, x, make([]int64, 3*blocks), traffic(blocks, 0), impl.ErrNone)
		checkRun(t, x, make([]int64, 3*blocks-1), traffic(blocks, 3*blocks-1), impl.ErrNone)
	}
	// Moves that are not allowed, and such of a traffic that is not safe.
	checkMovedTrain(t, traffic(4, 1, 3), 0, traffic(4, 2, 3), impl.ErrNone)
	checkMovedTrain(t, traffic(4, 3, 10, 1), 1, traffic(4, 3, 11, 1), impl.ErrNone)
	checkMovedTrain(t, traffic(4, 11, 0), 0, traffic(4, 0, 0), impl.ErrNone)
	checkMovedTrain(t, traffic(2, 5, 5, 5, 5), 3, traffic(2, 5, 5, 5, 0), impl.ErrNone)
}

func TestAllowedMoves(t *testing.T) {
	for _, c := range []struct {
		x    impl.Traffic
		want []int64
	}{
		{traffic(2, 0), []int64{0}}, {traffic(2, 1), []int64{0}}, {traffic(2, 2), []int64{0}}, {traffic(2, 5), []int64{0}},
		// As many trains as blocks: none may cross.
		{traffic(2, 0, 3), []int64{0, 1}}, {traffic(2, 1, 3), []int64{1}}, {traffic(2, 0, 4), []int64{0}}, {traffic(2, 1, 4), nil},
		{traffic(3, 1, 4, 7), nil}, {traffic(3, 7, 1, 4), nil}, {traffic(3, 7, 1, 3), []int64{2}}, {traffic(4, 1, 4, 7, 10), nil}, {traffic(4, 0, 3, 6, 9), []int64{0, 1, 2, 3}}, {traffic(4, 1, 3, 7, 10), []int64{1}},
		// One less: the train before the free block may cross, and then all wait for it.
		{traffic(3, 1, 4), []int64{1}}, {traffic(3, 1, 7), []int64{0}}, {traffic(3, 4, 7), []int64{1}}, {traffic(4, 1, 4, 7), []int64{2}}, {traffic(4, 1, 4, 8), []int64{2}}, {traffic(4, 1, 4, 9), []int64{1, 2}},
		{traffic(4, 4, 7, 10), []int64{2}}, {traffic(4, 4, 7, 11), []int64{2}}, {traffic(4, 10, 1, 4), []int64{2}}, {traffic(5, 1, 4, 7, 10), []int64{3}}, {traffic(5, 13, 4, 7, 10), []int64{0}},
		{traffic(impl.MaxBlocks, 1, 7, 13, 19), []int64{0, 1, 2, 3}}, {traffic(impl.MaxBlocks, 1, 4, 19, 22), []int64{1}}, {traffic(impl.MaxBlocks, 2, 8, 14, 20), []int64{0, 1, 2, 3}}, {traffic(impl.MaxBlocks, 22, 2, 8, 14), []int64{1, 2, 3}},
	} {
		checkAllowed(t, c.x, c.want, impl.ErrNone)
		for train := range int64(len(c.x.Places)) {
			if slices.Contains(c.want, train) {
				checkRun(t, c.x, []int64{train}, movedBy(c.x, train), impl.ErrNone)
			} else {
				checkRun(t, c.x, []int64{train}, impl.Traffic{}, impl.ErrState)
			}
		}
	}
	for _, x := range []impl.Traffic{traffic(2, 0, 0), traffic(2, 2, 4), traffic(4, 11, 0), traffic(4, 0, 5, 6), traffic(impl.MaxBlocks, 3, 9, 15, 4)} {
		checkAllowed(t, x, nil, impl.ErrState)
	}
}

// TestAllowedMovesKeepTrafficsSafe is the promise of the chapter: all safe traffics that are small
// are tried, and each of their moves.
func TestAllowedMovesKeepTrafficsSafe(t *testing.T) {
	for x := range smallTraffics() {
		if !isSafeBy(x) {
			continue
		}
		allowed, code := impl.AllowedMoves(x)
		if code != impl.ErrNone || len(x.Places) < int(x.Blocks) && len(allowed) == 0 {
			t.Errorf("no move of %v is allowed: %d", x, code)
		}
		for _, train := range allowed {
			if y, code := impl.MovedTrain(x, train); !isSafeBy(y) || code != impl.ErrNone {
				t.Errorf("behind an allowed move of %d, %v is %v, %d", train, x, y, code)
			}
		}
		for train, place := range x.Places {
			if place%3 != impl.PhaseHolding && !slices.Contains(allowed, int64(train)) {
				t.Errorf("the train %d of %v does not hold, but has to wait", train, x)
			}
		}
	}
}

// TestRunsOfAllowedMoves lets trains move on for as long as a run may last, in an order that changes
// from step to step.
func TestRunsOfAllowedMoves(t *testing.T) {
	for _, start := range []impl.Traffic{traffic(2, 0), traffic(2, 5), traffic(3, 8, 4), traffic(4, 1, 4, 7), traffic(4, 10, 1, 4), traffic(5, 0, 3, 6, 9), traffic(impl.MaxBlocks, 0, 3, 6, 9), traffic(impl.MaxBlocks, 22, 1, 4, 7)} {
		x, trains := start, []int64{}
		for n := range impl.MaxList {
			checkRun(t, start, trains, x, impl.ErrNone)
			allowed := allowedBy(x)
			train := allowed[(n*n+n/3)%len(allowed)]
			for other := range int64(len(x.Places)) {
				if !slices.Contains(allowed, other) {
					checkRun(t, start, append(slices.Clone(trains), other), impl.Traffic{}, impl.ErrState)
				}
			}
			x, trains = movedBy(x, train), append(trains, train)
		}
		checkRun(t, start, trains, x, impl.ErrNone)
		checkRun(t, start, append(trains, allowedBy(x)[0]), impl.Traffic{}, impl.ErrLimit)
	}
}

func TestRuns(t *testing.T) {
	x := traffic(4, 1, 4, 7)
	none := impl.Traffic{}
	for _, c := range []struct {
		trains []int64
		want   impl.Traffic
		code   int64
	}{
		{nil, x, impl.ErrNone}, {[]int64{}, x, impl.ErrNone}, {[]int64{2}, traffic(4, 1, 4, 8), impl.ErrNone},
		{[]int64{2, 2, 1, 1, 0}, traffic(4, 2, 6, 9), impl.ErrNone}, {[]int64{2, 2, 2}, traffic(4, 1, 4, 10), impl.ErrNone},
		// The first move, one in the middle, the last one.
		{[]int64{1, 2, 2}, none, impl.ErrState}, {[]int64{0}, none, impl.ErrState}, {[]int64{2, 1, 2, 1}, none, impl.ErrState}, {[]int64{2, 2, 0, 1}, none, impl.ErrState}, {[]int64{2, 2, 1, 0}, none, impl.ErrState}, {[]int64{2, 2, 2, 2}, none, impl.ErrState},
		// A traffic that would be safe again behind a move that is not allowed.
		{[]int64{1, 2, 2, 1}, none, impl.ErrState}, {[]int64{2, 1, 2}, none, impl.ErrState},
		// Trains that there are not, behind moves that are not allowed.
		{[]int64{0, 3}, none, impl.ErrRange}, {[]int64{0, 1, 2, -1}, none, impl.ErrRange}, {[]int64{2, 2, 0, 4}, none, impl.ErrRange}, {[]int64{3, 0}, none, impl.ErrRange},
	} {
		checkRun(t, x, c.trains, c.want, c.code)
	}
	longest := make([]int64, impl.MaxList)
	checkRun(t, traffic(2, 0), longest, traffic(2, impl.MaxList%6), impl.ErrNone)
	checkRun(t, traffic(impl.MaxBlocks, 23), longest, traffic(impl.MaxBlocks, (23+impl.MaxList)%24), impl.ErrNone)
	checkRun(t, traffic(2, 0), append(longest, 0), none, impl.ErrLimit)
	checkRun(t, traffic(2, 0), make([]int64, 100000), none, impl.ErrLimit)
	// Too many moves come before trains that there are not, and both before the moves themselves.
	for _, y := range []impl.Traffic{traffic(2, 0), traffic(2, 1, 4), traffic(2, 0, 0), traffic(4, 11, 0)} {
		checkRun(t, y, slices.Repeat([]int64{-1}, impl.MaxList+1), none, impl.ErrLimit)
		checkRun(t, y, append(slices.Clone(longest), 9), none, impl.ErrLimit)
		checkRun(t, y, append(slices.Clone(longest[1:]), 9), none, impl.ErrRange)
		checkRun(t, y, append(slices.Clone(longest[1:]), -1), none, impl.ErrRange)
	}
	for _, y := range []impl.Traffic{traffic(2, 0, 0), traffic(2, 2, 4), traffic(4, 11, 0), traffic(4, 9, 11), traffic(impl.MaxBlocks, 0, 3, 6, 8)} {
		checkRun(t, y, nil, none, impl.ErrState)
		checkRun(t, y, []int64{}, none, impl.ErrState)
		checkRun(t, y, []int64{0}, none, impl.ErrState)
		checkRun(t, y, []int64{0, 1, 1, 0}, none, impl.ErrState)
	}
}

func TestTextsOfTraffics(t *testing.T) {
	for _, c := range []struct {
		x    impl.Traffic
		text string
	}{
		{traffic(4, 0, 7), "4 0r 2h"}, {traffic(2, 0), "2 0r"}, {traffic(2, 1), "2 0h"}, {traffic(2, 2), "2 0c"}, {traffic(2, 5), "2 1c"},
		{traffic(8, 23), "8 7c"}, {traffic(8, 21, 22, 23), "8 7r 7h 7c"}, {traffic(8, 23, 0, 1, 2), "8 7c 0r 0h 0c"}, {traffic(3, 0, 0, 0, 0), "3 0r 0r 0r 0r"},
	} {
		checkTextOfTraffic(t, c.x, c.text)
	}
	for x := range smallTraffics() {
		checkTextOfTraffic(t, x, textBy(x))
	}
}

func TestNoTextsOfTraffics(t *testing.T) {
	for _, s := range []string{
		"", " ", "4", "4 ", "r", "0r", " 0r", "4 r", "4 0", "4 rh", "4 0r 2", "4 0r h", "4 0r2h", "40r", "4 0rr", "4 0rh", "4r 0r", "4 0R", "4 0x", "4 0r 2x", "4 r0", "4 0 r", "4 \x000r", "4 0\xffr",
		" 4 0r", "4  0r", "4 0r ", "4 0r  2h", "4 0r 2h ", "4 0r\n", "4\n0r", "4\t0r", "4 0r\t2h", "4,0r", "4 0r 2h\x00",
		"04 0r", "4 00r", "4 02h", "+4 0r", "4 +0r", "4 -0r", "4 +2h", "-4 0r", "4 -1r", "4 -1h", "4 -1c", "0x4 0r", "4 0x1r", "4.0 0r", "4 1.0r", "4e0 0r", "4 1_0r", "4 ٣r", "４ 0r",
		"1 0r", "0 0r", "9 0r", "9 8c", "10 0r", "2 2r", "4 4r", "4 4h", "4 3c 4r", "8 8r", "8 7c 8c", "4 0r 4c 1r", "8 10r",
		"8 0r 1r 2r 3r 4r", "8 0r 1r 2r 3r ", "8 0r 1r 2r 3r 4", "8 0r 1r 2r 3r x",
		// Numbers that would be right if they, or the places, wrapped around.
		"4294967300 0r", "18446744073709551620 0r", "36893488147419103236 0r", "4 4294967296r", "4 4294967295r", "4 18446744073709551616r", "4 6148914691236517205r", "4 6148914691236517206r", "4 12297829382473034411r", "4 -6148914691236517205r",
		"9223372036854775807 0r", "9223372036854775808 0r", "4 9223372036854775807c", "4 9223372036854775808r", "4 99999999999999999999999999r", "99999999999999999999999999 0r", "-9223372036854775808 0r",
	} {
		checkNoTextOfTraffic(t, s)
	}
}

// TestChangedTextsOfTraffics reads texts that differ from those of traffics by one byte.
func TestChangedTextsOfTraffics(t *testing.T) {
	texts := map[string]impl.Traffic{}
	for blocks := int64(2); blocks <= impl.MaxBlocks; blocks++ {
		for trains := 1; trains <= 2; trains++ {
			for x := range trafficsOf(blocks, trains) {
				texts[textBy(x)] = x
			}
		}
	}
	check := func(s string) {
		if x, ok := texts[s]; ok {
			checkTextOfTraffic(t, x, s)
		} else {
			checkNoTextOfTraffic(t, s)
		}
	}
	for _, s := range []string{"4 0r 2h", "2 0c", "8 7c 0r", "3 2r", "8 3h 3h"} {
		for i := range len(s) + 1 {
			check(s[:i])
			for _, c := range []byte(" 0123456789rhcRx+-.\n\x00\xff") {
				check(s[:i] + string([]byte{c}) + s[i:])
				if i < len(s) {
					check(s[:i] + string([]byte{c}) + s[i+1:])
				}
			}
			if i < len(s) {
				check(s[:i] + s[i+1:])
			}
		}
	}
}

func TestArgumentsOfTrafficsAreNotChanged(t *testing.T) {
	places, moves := []int64{1, 4, 7, 77, 78}, []int64{2, 2, 1, 88}
	keptPlaces, keptMoves := slices.Clone(places), slices.Clone(moves)
	x := impl.Traffic{Blocks: 4, Places: places[:3]}
	text := impl.TrafficText(x)
	for range 2 {
		// A result that shared memory with an argument, or with one from before, would change it.
		impl.IsSafeTraffic(x)
		moved, _ := impl.MovedTrain(x, 2)
		run, _ := impl.RunMoves(x, moves[:3])
		stood, _ := impl.RunMoves(x, nil)
		checkRun(t, x, moves[:3], traffic(4, 1, 5, 9), impl.ErrNone)
		checkRun(t, x, []int64{1, 2}, impl.Traffic{}, impl.ErrState)
		used, _ := impl.UsedBlocks(x, 2)
		uses, _ := impl.UsesOfBlocks(x)
		allowed, _ := impl.AllowedMoves(x)
		read, _ := impl.ReadTraffic(text)
		for _, result := range [][]int64{moved.Places, run.Places, stood.Places, used, uses, allowed, read.Places} {
			spoil(result)
		}
	}
	if !slices.Equal(places, keptPlaces) || !slices.Equal(moves, keptMoves) {
		t.Errorf("the places became %v, the moves %v", places, moves)
	}
	checkMovedTrain(t, x, 2, traffic(4, 1, 4, 8), impl.ErrNone)
	checkUses(t, x, []int64{1, 1, 1, 0}, impl.ErrNone)
}
