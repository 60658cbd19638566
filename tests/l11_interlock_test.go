package tests

import (
	"iter"
	"math"
	"math/rand"
	"slices"
	"testing"

	"loop.example/g00916/impl"
)

const (
	isClear    = impl.ReportClear
	isOccupied = impl.ReportOccupied
)

func fault(block int64, channel int64, value int64) impl.SensorFault {
	return impl.SensorFault{Block: block, Channel: channel, Value: value}
}

func faults(list ...impl.SensorFault) []impl.SensorFault { return list }

// bothStuck are the faults of both channels of a block, with the same value.
func bothStuck(block int64, value int64) []impl.SensorFault {
	return faults(fault(block, 0, value), fault(block, 1, value))
}

// allStuck are the faults of both channels of some blocks, with the same value.
func allStuck(value int64, blocks ...int64) []impl.SensorFault {
	var list []impl.SensorFault
	for _, block := range blocks {
		list = append(list, bothStuck(block, value)...)
	}
	return list
}

func report(first []int64, second []int64) impl.Report {
	return impl.Report{First: first, Second: second}
}

func sameReport(r impl.Report, s impl.Report) bool {
	return slices.Equal(r.First, s.First) && slices.Equal(r.Second, s.Second)
}

// faultLists produces a list for each choice of the channels of some blocks that are stuck, and of
// their values, and the same list in reverse.
func faultLists(blocks int64) iter.Seq[[]impl.SensorFault] {
	return func(yield func([]impl.SensorFault) bool) {
		choices := int64(1)
		for range 2 * blocks {
			choices *= 3
		}
		for choice := range choices {
			var list []impl.SensorFault
			for i, rest := int64(0), choice; i < 2*blocks; i, rest = i+1, rest/3 {
				if rest%3 > 0 {
					list = append(list, fault(i/2, i%2, rest%3-1))
				}
			}
			if len(list) > impl.MaxFaults || !yield(list) {
				continue
			}
			reversed := slices.Clone(list)
			slices.Reverse(reversed)
			if !yield(reversed) {
				return
			}
		}
	}
}

// mixedFaults returns faults of some blocks in a random order.
func mixedFaults(random *rand.Rand, blocks int64) []impl.SensorFault {
	var list []impl.SensorFault
	for _, i := range random.Perm(int(2 * blocks))[:random.Intn(int(min(2*blocks, impl.MaxFaults))+1)] {
		list = append(list, fault(int64(i/2), int64(i%2), random.Int63n(2)))
	}
	return list
}

// mixedTraffic returns a random traffic of some blocks.
func mixedTraffic(random *rand.Rand, blocks int64) impl.Traffic {
	x := traffic(blocks)
	for range 1 + random.Intn(impl.MaxTrains) {
		x.Places = append(x.Places, random.Int63n(3*blocks))
	}
	return x
}

// isStuckAt reports whether a channel of a block is stuck at a value.
func isStuckAt(list []impl.SensorFault, block int64, channel int64, value int64) bool {
	return slices.Contains(list, fault(block, channel, value))
}

// areToleratedBy reports whether faults of some blocks are tolerated, by the definition.
func areToleratedBy(blocks int64, list []impl.SensorFault) bool {
	for block := range blocks {
		if isStuckAt(list, block, 0, isClear) && isStuckAt(list, block, 1, isClear) {
			return false
		}
	}
	return true
}

// valuesBy returns what a channel reports, by the definition.
func valuesBy(x impl.Traffic, list []impl.SensorFault, channel int64) []int64 {
	var values []int64
	for block, users := range usesBy(x) {
		value := int64(isClear)
		if len(users) > 0 {
			value = isOccupied
		}
		for _, stuck := range []int64{isClear, isOccupied} {
			if isStuckAt(list, int64(block), channel, stuck) {
				value = stuck
			}
		}
		values = append(values, value)
	}
	return values
}

// reportBy returns what both channels report, by the definition.
func reportBy(x impl.Traffic, list []impl.SensorFault) impl.Report {
	return report(valuesBy(x, list, 0), valuesBy(x, list, 1))
}

// clearBy returns the blocks that are clear by a report, and differingBy those whose values differ,
// both by the definition.
func clearBy(r impl.Report) []int64 {
	var list []int64
	for block := range r.First {
		if r.First[block]+r.Second[block] == 0 {
			list = append(list, int64(block))
		}
	}
	return list
}

func differingBy(r impl.Report) []int64 {
	var list []int64
	for block := range r.First {
		if r.First[block]+r.Second[block] == 1 {
			list = append(list, int64(block))
		}
	}
	return list
}

// permittedBy returns the trains whose moves a report permits, by the definition.
func permittedBy(x impl.Traffic, r impl.Report) []int64 {
	var list []int64
	clear := clearBy(r)
	for train, place := range x.Places {
		next := place/3 + 1
		if next == x.Blocks {
			next = 0
		}
		if place%3 == impl.PhaseRunning || place%3 == impl.PhaseCrossing || slices.Contains(clear, next) {
			list = append(list, int64(train))
		}
	}
	return list
}

// runBy returns the traffic behind a controlled run, the moves behind which it is not safe for the
// first time, and the code, by the definition, where the trains are those of x.
func runBy(x impl.Traffic, list []impl.SensorFault, trains []int64) (impl.Traffic, int64, int64) {
	first := int64(-1)
	for moves := 0; ; moves++ {
		if first < 0 && !isSafeBy(x) {
			first = int64(moves)
		}
		if moves == len(trains) {
			return x, first, impl.ErrNone
		}
		if !slices.Contains(permittedBy(x, reportBy(x, list)), trains[moves]) {
			return impl.Traffic{}, 0, impl.ErrState
		}
		x = movedBy(x, trains[moves])
	}
}

func checkFaults(t *testing.T, blocks int64, list []impl.SensorFault, are bool, tolerated bool) {
	t.Helper()
	if got := impl.AreFaults(blocks, list); got != are {
		t.Errorf("AreFaults(%d, %v) = %v", blocks, list, got)
	}
	if got := impl.AreTolerated(blocks, list); got != tolerated {
		t.Errorf("AreTolerated(%d, %v) = %v", blocks, list, got)
	}
}

func checkReport(t *testing.T, x impl.Traffic, list []impl.SensorFault, want impl.Report, code int64) {
	t.Helper()
	if r, got := impl.ReportOf(x, list); !sameReport(r, want) || got != code {
		t.Errorf("ReportOf(%v, %v) = %v, %d; want %v, %d", x, list, r, got, want, code)
	}
}

func checkClear(t *testing.T, blocks int64, r impl.Report, want []int64, code int64) {
	t.Helper()
	if list, got := impl.ClearBlocks(blocks, r); !slices.Equal(list, want) || got != code {
		t.Errorf("ClearBlocks(%d, %v) = %v, %d; want %v, %d", blocks, r, list, got, want, code)
	}
}

func checkDiscrepancies(t *testing.T, blocks int64, r impl.Report, want []int64, code int64) {
	t.Helper()
	if list, got := impl.Discrepancies(blocks, r); !slices.Equal(list, want) || got != code {
		t.Errorf("Discrepancies(%d, %v) = %v, %d; want %v, %d", blocks, r, list, got, want, code)
	}
}

func checkPermitted(t *testing.T, x impl.Traffic, r impl.Report, want []int64, code int64) {
	t.Helper()
	if list, got := impl.PermittedMoves(x, r); !slices.Equal(list, want) || got != code {
		t.Errorf("PermittedMoves(%v, %v) = %v, %d; want %v, %d", x, r, list, got, want, code)
	}
}

// checkControlled checks a controlled run, and the first collision in it.
func checkControlled(t *testing.T, x impl.Traffic, list []impl.SensorFault, trains []int64, want impl.Traffic, first int64, code int64) {
	t.Helper()
	if y, got := impl.ControlledRun(x, list, trains); !sameTraffic(y, want) || got != code {
		t.Errorf("ControlledRun(%v, %v, %v) = %v, %d; want %v, %d", x, list, trains, y, got, want, code)
	}
	if n, got := impl.FirstCollision(x, list, trains); n != first || got != code {
		t.Errorf("FirstCollision(%v, %v, %v) = %d, %d; want %d, %d", x, list, trains, n, got, first, code)
	}
}

func checkNotControlled(t *testing.T, x impl.Traffic, list []impl.SensorFault, trains []int64, code int64) {
	t.Helper()
	checkControlled(t, x, list, trains, impl.Traffic{}, 0, code)
}

// checkAsDefined checks all functions of traffics with faults against the definitions.
func checkAsDefined(t *testing.T, x impl.Traffic, list []impl.SensorFault) {
	t.Helper()
	r := reportBy(x, list)
	checkReport(t, x, list, r, impl.ErrNone)
	checkClear(t, x.Blocks, r, clearBy(r), impl.ErrNone)
	checkDiscrepancies(t, x.Blocks, r, differingBy(r), impl.ErrNone)
	permitted := permittedBy(x, r)
	checkPermitted(t, x, r, permitted, impl.ErrNone)
	for train := range int64(len(x.Places)) {
		y, first, code := runBy(x, list, []int64{train})
		checkControlled(t, x, list, []int64{train}, y, first, code)
	}
}

func TestFaults(t *testing.T) {
	most := allStuck(isOccupied, 0, 1, 2, 7)
	for _, c := range []struct {
		blocks    int64
		list      []impl.SensorFault
		tolerated bool
	}{
		{2, nil, true}, {2, faults(), true}, {impl.MaxBlocks, nil, true},
		{2, faults(fault(0, 0, isClear)), true}, {2, faults(fault(1, 1, isOccupied)), true}, {impl.MaxBlocks, faults(fault(7, 0, isOccupied)), true}, {impl.MaxBlocks, faults(fault(0, 1, isClear)), true}, {impl.MaxBlocks, faults(fault(7, 1, isClear)), true},
		// Both channels of one block, and the same channel of several blocks.
		{2, bothStuck(0, isClear), false}, {2, bothStuck(1, isClear), false}, {2, bothStuck(0, isOccupied), true}, {2, bothStuck(1, isOccupied), true}, {impl.MaxBlocks, bothStuck(7, isClear), false},
		{2, faults(fault(0, 0, isClear), fault(0, 1, isOccupied)), true}, {2, faults(fault(0, 0, isOccupied), fault(0, 1, isClear)), true}, {2, faults(fault(1, 1, isClear), fault(1, 0, isClear)), false},
		{2, faults(fault(0, 0, isClear), fault(1, 0, isClear)), true}, {2, faults(fault(0, 1, isClear), fault(1, 1, isClear)), true}, {2, faults(fault(0, 0, isClear), fault(1, 1, isClear)), true}, {2, faults(fault(0, 0, isClear), fault(1, 0, isClear), fault(0, 1, isClear)), false},
		{4, faults(fault(0, 0, isClear), fault(1, 0, isClear), fault(2, 0, isClear), fault(3, 0, isClear)), true}, {4, faults(fault(3, 1, isClear), fault(1, 0, isOccupied), fault(3, 0, isClear)), false},
		{2, allStuck(isOccupied, 0, 1), true}, {2, allStuck(isClear, 1, 0), false}, {2, append(bothStuck(0, isOccupied), bothStuck(1, isClear)...), false},
		// MaxFaults.
		{impl.MaxBlocks, most, true}, {4, allStuck(isOccupied, 0, 1, 2, 3), true}, {4, allStuck(isClear, 0, 1, 2, 3), false}, {impl.MaxBlocks, append(allStuck(isOccupied, 0, 1, 2), bothStuck(7, isClear)...), false},
	} {
		checkFaults(t, c.blocks, c.list, true, c.tolerated)
	}
	for blocks := int64(2); blocks <= impl.MaxBlocks; blocks++ {
		var list []impl.SensorFault
		for block := range blocks {
			list = append(list, fault(block, block%2, isClear))
		}
		checkFaults(t, blocks, list, true, true)
	}
}

// numbersOfNoBlocks are numbers of blocks that no traffic has.
var numbersOfNoBlocks = []int64{1, 0, -1, -2, impl.MaxBlocks + 1, 1 << 32, 1<<32 + 2, math.MaxInt64, math.MinInt64}

// notFaults are lists that are not faults of some blocks, for one reason or for several.
func notFaults(blocks int64) [][]impl.SensorFault {
	lists := [][]impl.SensorFault{
		faults(fault(0, 0, isClear), fault(0, 0, isClear)), faults(fault(0, 0, isClear), fault(0, 0, isOccupied)), faults(fault(0, 1, isOccupied), fault(0, 1, isClear)), faults(fault(blocks-1, 1, isOccupied), fault(blocks-1, 1, isOccupied)),
		faults(fault(0, 0, isClear), fault(1, 0, isClear), fault(1, 1, isClear), fault(0, 0, isClear)), faults(fault(1, 0, isClear), fault(0, 0, isClear), fault(0, 0, isOccupied)), faults(fault(0, 1, isClear), fault(1, 1, isClear), fault(1, 1, isClear), fault(0, 0, isClear)),
		append(bothStuck(0, isClear), bothStuck(0, isOccupied)...), append(bothStuck(0, isOccupied), bothStuck(blocks, isOccupied)...), make([]impl.SensorFault, 2), make([]impl.SensorFault, impl.MaxFaults), make([]impl.SensorFault, impl.MaxFaults+1), make([]impl.SensorFault, 100000),
		faults(fault(-1, -1, -1)), faults(fault(blocks, 2, 2)), faults(fault(0, 0, isClear), fault(-1, 2, isClear)),
	}
	for _, wrong := range []int64{-1, -2, blocks, blocks + 1, math.MaxInt64, math.MinInt64} {
		lists = append(lists, faults(fault(wrong, 0, isClear)), faults(fault(wrong, 1, isOccupied)), faults(fault(0, 0, isClear), fault(wrong, 0, isClear)), faults(fault(wrong, 0, isClear), fault(0, 0, isClear)))
	}
	for _, wrong := range []int64{-1, -2, 2, 3, 1 << 32, math.MaxInt64, math.MinInt64} {
		lists = append(lists, faults(fault(0, wrong, isClear)), faults(fault(blocks-1, wrong, isOccupied)), faults(fault(0, 0, isClear), fault(0, wrong, isClear)), faults(fault(0, wrong, isClear), fault(0, 0, isClear)))
		lists = append(lists, faults(fault(0, 0, wrong)), faults(fault(blocks-1, 1, wrong)), faults(fault(0, 0, isClear), fault(0, 1, wrong)), faults(fault(0, 0, wrong), fault(0, 1, isClear)))
	}
	return lists
}

// tooManyFaults are more faults than there may be, of different channels.
func tooManyFaults() []impl.SensorFault {
	return append(allStuck(isOccupied, 0, 1, 2, 3), fault(7, 1, isOccupied))
}

func TestListsThatAreNoFaults(t *testing.T) {
	for blocks := int64(2); blocks <= impl.MaxBlocks; blocks++ {
		for _, list := range notFaults(blocks) {
			checkFaults(t, blocks, list, false, false)
			for _, x := range []impl.Traffic{traffic(blocks, 0), traffic(blocks, 3*blocks-1, 4), traffic(blocks, 1, 1, 1, 1)} {
				checkReport(t, x, list, impl.Report{}, impl.ErrRange)
				// It comes before moves that are not permitted.
				checkNotControlled(t, x, list, nil, impl.ErrRange)
				checkNotControlled(t, x, list, []int64{0}, impl.ErrRange)
				checkNotControlled(t, x, list, []int64{0, 0, 0, 0, 4}, impl.ErrRange)
				checkNotControlled(t, x, list, make([]int64, impl.MaxList), impl.ErrRange)
				checkNotControlled(t, x, list, make([]int64, impl.MaxList+1), impl.ErrLimit)
			}
		}
	}
	checkFaults(t, impl.MaxBlocks, tooManyFaults(), false, false)
	checkFaults(t, impl.MaxBlocks, tooManyFaults()[:impl.MaxFaults], true, true)
	checkReport(t, traffic(impl.MaxBlocks, 0), tooManyFaults(), impl.Report{}, impl.ErrRange)
	checkNotControlled(t, traffic(impl.MaxBlocks, 0), tooManyFaults(), []int64{0}, impl.ErrRange)
	for _, blocks := range numbersOfNoBlocks {
		for _, list := range [][]impl.SensorFault{nil, faults(fault(0, 0, isClear)), bothStuck(0, isOccupied), faults(fault(1, 0, isClear)), faults(fault(-1, 2, 2)), make([]impl.SensorFault, impl.MaxFaults+1)} {
			checkFaults(t, blocks, list, false, false)
		}
	}
	// Faults of more blocks than there are.
	checkFaults(t, 3, faults(fault(2, 0, isClear)), true, true)
	checkFaults(t, 2, faults(fault(2, 0, isClear)), false, false)
	checkReport(t, traffic(2, 0), faults(fault(2, 0, isClear)), impl.Report{}, impl.ErrRange)
}

func TestReports(t *testing.T) {
	all := report([]int64{1, 1}, []int64{1, 1})
	for _, c := range []struct {
		x    impl.Traffic
		list []impl.SensorFault
		want impl.Report
	}{
		// A train that runs, holds and crosses, also from the last block into the block 0.
		{traffic(2, 0), nil, report([]int64{1, 0}, []int64{1, 0})}, {traffic(2, 1), nil, report([]int64{1, 0}, []int64{1, 0})}, {traffic(2, 2), nil, all}, {traffic(2, 3), faults(), report([]int64{0, 1}, []int64{0, 1})}, {traffic(2, 4), nil, report([]int64{0, 1}, []int64{0, 1})}, {traffic(2, 5), nil, all},
		{traffic(4, 11), nil, report([]int64{1, 0, 0, 1}, []int64{1, 0, 0, 1})}, {traffic(4, 5), nil, report([]int64{0, 1, 1, 0}, []int64{0, 1, 1, 0})}, {traffic(4, 5, 5, 3, 7), nil, report([]int64{0, 1, 1, 0}, []int64{0, 1, 1, 0})},
		{traffic(impl.MaxBlocks, 23, 9), nil, report([]int64{1, 0, 0, 1, 0, 0, 0, 1}, []int64{1, 0, 0, 1, 0, 0, 0, 1})}, {traffic(impl.MaxBlocks, 2, 8, 14, 20), nil, report([]int64{1, 1, 1, 1, 1, 1, 1, 1}, []int64{1, 1, 1, 1, 1, 1, 1, 1})},
		// One channel, of a block that is used and of one that is not, at the value that it would report and at the other one.
		{traffic(2, 0), faults(fault(0, 0, isClear)), report([]int64{0, 0}, []int64{1, 0})}, {traffic(2, 0), faults(fault(0, 1, isClear)), report([]int64{1, 0}, []int64{0, 0})}, {traffic(2, 0), faults(fault(0, 1, isOccupied)), report([]int64{1, 0}, []int64{1, 0})},
		{traffic(2, 0), faults(fault(1, 0, isOccupied)), report([]int64{1, 1}, []int64{1, 0})}, {traffic(2, 0), faults(fault(1, 1, isOccupied)), report([]int64{1, 0}, []int64{1, 1})}, {traffic(2, 0), faults(fault(1, 1, isClear)), report([]int64{1, 0}, []int64{1, 0})},
		// Both channels.
		{traffic(2, 0), bothStuck(0, isClear), report([]int64{0, 0}, []int64{0, 0})}, {traffic(2, 0), bothStuck(1, isOccupied), all}, {traffic(2, 0), faults(fault(1, 1, isOccupied), fault(0, 0, isClear)), report([]int64{0, 0}, []int64{1, 1})}, {traffic(2, 0), faults(fault(0, 1, isClear), fault(0, 0, isOccupied)), report([]int64{1, 0}, []int64{0, 0})},
		{traffic(2, 5, 0), allStuck(isClear, 0, 1), report([]int64{0, 0}, []int64{0, 0})}, {traffic(2, 1), allStuck(isOccupied, 0, 1), all},
		{traffic(impl.MaxBlocks, 23), append(bothStuck(7, isClear), bothStuck(0, isClear)...), report(make([]int64, 8), make([]int64, 8))},
	} {
		checkReport(t, c.x, c.list, c.want, impl.ErrNone)
	}
}

func TestBlocksByReports(t *testing.T) {
	for _, c := range []struct {
		r         impl.Report
		clear     []int64
		different []int64
	}{
		{report([]int64{0, 0}, []int64{0, 0}), []int64{0, 1}, nil}, {report([]int64{1, 1}, []int64{1, 1}), nil, nil}, {report([]int64{0, 1}, []int64{0, 1}), []int64{0}, nil}, {report([]int64{1, 0}, []int64{1, 0}), []int64{1}, nil},
		{report([]int64{0, 1}, []int64{1, 0}), nil, []int64{0, 1}}, {report([]int64{1, 1}, []int64{0, 0}), nil, []int64{0, 1}}, {report([]int64{0, 0}, []int64{0, 1}), []int64{0}, []int64{1}}, {report([]int64{1, 0}, []int64{0, 0}), []int64{1}, []int64{0}},
		{report([]int64{1, 0, 1, 0}, []int64{1, 1, 0, 0}), []int64{3}, []int64{1, 2}}, {report(make([]int64, 8), make([]int64, 8)), []int64{0, 1, 2, 3, 4, 5, 6, 7}, nil}, {report([]int64{0, 0, 0, 0, 0, 0, 0, 1}, []int64{1, 0, 0, 0, 0, 0, 0, 0}), []int64{1, 2, 3, 4, 5, 6}, []int64{0, 7}}, {report(slices.Repeat([]int64{1}, 8), make([]int64, 8)), nil, []int64{0, 1, 2, 3, 4, 5, 6, 7}},
	} {
		blocks := int64(len(c.r.First))
		checkClear(t, blocks, c.r, c.clear, impl.ErrNone)
		checkDiscrepancies(t, blocks, c.r, c.different, impl.ErrNone)
		swapped := report(c.r.Second, c.r.First)
		checkClear(t, blocks, swapped, c.clear, impl.ErrNone)
		checkDiscrepancies(t, blocks, swapped, c.different, impl.ErrNone)
	}
	// All reports.
	for blocks := 2; blocks <= impl.MaxBlocks; blocks++ {
		for values := range 1 << (2 * blocks) {
			r := report(make([]int64, blocks), make([]int64, blocks))
			for block := range blocks {
				r.First[block], r.Second[block] = int64(values>>(2*block)&1), int64(values>>(2*block+1)&1)
			}
			checkClear(t, int64(blocks), r, clearBy(r), impl.ErrNone)
			checkDiscrepancies(t, int64(blocks), r, differingBy(r), impl.ErrNone)
		}
	}
}

// notReports are no reports of some blocks, for one reason or for several.
func notReports(blocks int64) []impl.Report {
	free := make([]int64, blocks)
	list := []impl.Report{{}, report(free, nil), report(nil, free), report(free, free[1:]), report(free[1:], free), report(free[1:], free[1:]), report(free, make([]int64, blocks+1)), report(make([]int64, blocks+1), free), report(make([]int64, blocks+1), make([]int64, blocks+1)), report(make([]int64, blocks-1), make([]int64, blocks+1)), report(make([]int64, 100000), free), report(free, make([]int64, 100000))}
	for _, value := range []int64{-1, -2, 2, 3, 256, 1 << 32, math.MaxInt64, math.MinInt64} {
		first, last := slices.Clone(free), slices.Clone(free)
		first[0], last[blocks-1] = value, value
		list = append(list, report(first, free), report(free, first), report(last, free), report(free, last), report(first, first), report(last, first), report(first, nil), report(nil, last), report(first, last[1:]))
	}
	return list
}

func TestNoReports(t *testing.T) {
	for blocks := int64(2); blocks <= impl.MaxBlocks; blocks++ {
		for _, r := range notReports(blocks) {
			checkClear(t, blocks, r, nil, impl.ErrRange)
			checkDiscrepancies(t, blocks, r, nil, impl.ErrRange)
			// Also where no train holds, so that all moves would be permitted.
			for _, x := range []impl.Traffic{traffic(blocks, 0), traffic(blocks, 3*blocks-1), traffic(blocks, 1, 4), traffic(blocks, 1, 1, 1, 1)} {
				checkPermitted(t, x, r, nil, impl.ErrRange)
			}
		}
	}
	for _, blocks := range numbersOfNoBlocks {
		for _, r := range append(notReports(2), report([]int64{0}, []int64{0}), report(make([]int64, 2), make([]int64, 2)), report(make([]int64, 9), make([]int64, 9))) {
			checkClear(t, blocks, r, nil, impl.ErrInvalid)
			checkDiscrepancies(t, blocks, r, nil, impl.ErrInvalid)
		}
	}
}

func TestPermittedMoves(t *testing.T) {
	free, taken := make([]int64, 4), []int64{1, 1, 1, 1}
	for _, c := range []struct {
		x    impl.Traffic
		r    impl.Report
		want []int64
	}{
		// Trains that hold ahead of a block that both channels, one of them and none of them report as clear.
		{traffic(4, 1), report(free, free), []int64{0}}, {traffic(4, 1), report([]int64{0, 1, 0, 0}, free), nil}, {traffic(4, 1), report(free, []int64{0, 1, 0, 0}), nil}, {traffic(4, 1), report([]int64{0, 1, 0, 0}, []int64{0, 1, 0, 0}), nil},
		// The own block, and those that are not next to it, do not count.
		{traffic(4, 1), report([]int64{1, 0, 1, 1}, []int64{1, 0, 1, 1}), []int64{0}}, {traffic(4, 4), report([]int64{1, 1, 0, 1}, []int64{1, 1, 0, 1}), []int64{0}}, {traffic(4, 4), report([]int64{0, 0, 1, 0}, free), nil},
		{traffic(4, 10), report([]int64{0, 1, 1, 1}, []int64{0, 1, 1, 1}), []int64{0}}, {traffic(4, 10), report([]int64{1, 0, 0, 0}, free), nil}, {traffic(4, 10), report(free, []int64{1, 0, 0, 0}), nil},
		// Trains that run or cross do not wait.
		{traffic(4, 0, 2, 11, 6), report(taken, taken), []int64{0, 1, 2, 3}}, {traffic(4, 0, 2, 11, 6), report(taken, free), []int64{0, 1, 2, 3}}, {traffic(4, 1, 5, 10, 9), report(taken, taken), []int64{1, 3}},
		{traffic(4, 1, 4, 7, 10), report(free, free), []int64{0, 1, 2, 3}}, {traffic(4, 1, 4, 7, 10), report(taken, taken), nil}, {traffic(4, 1, 4, 7, 10), report([]int64{0, 1, 0, 1}, []int64{0, 1, 1, 1}), []int64{3}}, {traffic(4, 10, 7, 4, 1), report([]int64{0, 1, 0, 1}, []int64{0, 0, 0, 1}), []int64{0, 2}}, {traffic(4, 10, 10, 10, 1), report([]int64{0, 1, 1, 1}, []int64{0, 1, 1, 1}), []int64{0, 1, 2}},
		{traffic(2, 1), report([]int64{1, 0}, []int64{1, 0}), []int64{0}}, {traffic(2, 4), report([]int64{1, 0}, []int64{0, 0}), nil}, {traffic(2, 4), report([]int64{0, 1}, []int64{0, 1}), []int64{0}},
		{traffic(impl.MaxBlocks, 22, 19), report([]int64{0, 1, 1, 1, 1, 1, 1, 0}, []int64{0, 1, 1, 1, 1, 1, 1, 1}), []int64{0}},
	} {
		checkPermitted(t, c.x, c.r, c.want, impl.ErrNone)
	}
}

func TestInvalidTrafficsAreNotControlled(t *testing.T) {
	for _, x := range invalidTraffics() {
		for _, list := range [][]impl.SensorFault{nil, faults(fault(0, 0, isClear)), faults(fault(-1, 0, isClear)), faults(fault(0, 2, isClear)), faults(fault(0, 0, 2)), make([]impl.SensorFault, impl.MaxFaults+1)} {
			checkReport(t, x, list, impl.Report{}, impl.ErrInvalid)
			checkNotControlled(t, x, list, nil, impl.ErrInvalid)
			for _, train := range []int64{0, -1, 4, math.MaxInt64, math.MinInt64} {
				checkNotControlled(t, x, list, []int64{train}, impl.ErrInvalid)
				checkNotControlled(t, x, list, slices.Repeat([]int64{train}, impl.MaxList+1), impl.ErrInvalid)
			}
		}
		for _, r := range append(notReports(4), report(make([]int64, 4), make([]int64, 4)), report(make([]int64, 9), make([]int64, 9)), report([]int64{0}, []int64{0})) {
			checkPermitted(t, x, r, nil, impl.ErrInvalid)
		}
	}
}

// TestEachListOfFaults checks all lists of faults of 2 and 3 blocks in all traffics of one train and
// of two, and lists of more blocks.
func TestEachListOfFaults(t *testing.T) {
	for blocks := int64(2); blocks <= 3; blocks++ {
		for list := range faultLists(blocks) {
			checkFaults(t, blocks, list, true, areToleratedBy(blocks, list))
			for trains := 1; trains <= 2; trains++ {
				for x := range trafficsOf(blocks, trains) {
					if len(list)%2 == trains%2 || blocks == 2 {
						checkAsDefined(t, x, list)
					}
				}
			}
		}
	}
	for list := range faultLists(4) {
		checkFaults(t, 4, list, true, areToleratedBy(4, list))
	}
	random := rand.New(rand.NewSource(11))
	for n := range int64(30000) {
		blocks := 2 + n%(impl.MaxBlocks-1)
		list := mixedFaults(random, blocks)
		checkFaults(t, blocks, list, true, areToleratedBy(blocks, list))
		checkAsDefined(t, mixedTraffic(random, blocks), list)
	}
}

// TestWithoutFaultsPermittedMovesAreAllowed compares both rules: without a fault, the report tells
// what is used.
func TestWithoutFaultsPermittedMovesAreAllowed(t *testing.T) {
	for x := range smallTraffics() {
		if !isSafeBy(x) || x.Blocks > 6 {
			continue
		}
		r, code := impl.ReportOf(x, nil)
		if code != impl.ErrNone {
			t.Fatalf("ReportOf(%v) has the code %d", x, code)
		}
		checkPermitted(t, x, r, allowedBy(x), impl.ErrNone)
	}
}

// checkKeptSafe checks that the moves that are permitted with some faults lead from a safe traffic to
// safe ones only.
func checkKeptSafe(t *testing.T, x impl.Traffic, list []impl.SensorFault) {
	t.Helper()
	r, code := impl.ReportOf(x, list)
	permitted, other := impl.PermittedMoves(x, r)
	if code != impl.ErrNone || other != impl.ErrNone {
		t.Fatalf("%v with %v: codes %d, %d", x, list, code, other)
	}
	for _, train := range permitted {
		y, code := impl.ControlledRun(x, list, []int64{train})
		if !isSafeBy(y) || code != impl.ErrNone {
			t.Errorf("behind a permitted move of %d with %v, %v is %v, %d", train, list, x, y, code)
		}
		if n, code := impl.FirstCollision(x, list, []int64{train}); n != -1 || code != impl.ErrNone {
			t.Errorf("FirstCollision(%v, %v, %d) = %d, %d", x, list, train, n, code)
		}
	}
}

// TestToleratedFaultsKeepTrafficsSafe is the promise of the chapter.
func TestToleratedFaultsKeepTrafficsSafe(t *testing.T) {
	for blocks := int64(2); blocks <= 3; blocks++ {
		for list := range faultLists(blocks) {
			if !impl.AreTolerated(blocks, list) {
				continue
			}
			for trains := 1; trains <= 3; trains++ {
				for x := range trafficsOf(blocks, trains) {
					if isSafeBy(x) {
						checkKeptSafe(t, x, list)
					}
				}
			}
		}
	}
	random := rand.New(rand.NewSource(12))
	for x := range smallTraffics() {
		if !isSafeBy(x) || x.Blocks > 6 {
			continue
		}
		for range 3 {
			if list := mixedFaults(random, x.Blocks); impl.AreTolerated(x.Blocks, list) {
				checkKeptSafe(t, x, list)
			}
		}
	}
}

// TestOtherFaultsLetTrainsCollide shows that no fault which is not tolerated could be: a train that
// holds ahead of the block is released into the one that uses it.
func TestOtherFaultsLetTrainsCollide(t *testing.T) {
	for blocks := int64(2); blocks <= impl.MaxBlocks; blocks++ {
		for block := range blocks {
			list := bothStuck(block, isClear)
			behind := 3*((block+blocks-1)%blocks) + impl.PhaseHolding
			for phase := range int64(2) {
				x := traffic(blocks, behind, 3*block+phase)
				checkFaults(t, blocks, list, true, false)
				checkControlled(t, x, list, []int64{0}, movedBy(x, 0), 1, impl.ErrNone)
				for _, tolerated := range [][]impl.SensorFault{nil, list[:1], list[1:], bothStuck(block, isOccupied)} {
					checkNotControlled(t, x, tolerated, []int64{0}, impl.ErrState)
				}
			}
		}
	}
}

func TestControlledRuns(t *testing.T) {
	x := traffic(4, 1, 4, 7)
	blind := bothStuck(1, isClear)
	for _, c := range []struct {
		list   []impl.SensorFault
		trains []int64
		want   impl.Traffic
		first  int64
		code   int64
	}{
		{nil, nil, x, -1, impl.ErrNone}, {nil, []int64{}, x, -1, impl.ErrNone}, {tooManyFaults()[:2], nil, x, -1, impl.ErrNone}, {nil, []int64{2}, traffic(4, 1, 4, 8), -1, impl.ErrNone}, {nil, []int64{2, 2, 1, 1, 0}, traffic(4, 2, 6, 9), -1, impl.ErrNone},
		// The first move, one in the middle, the last one.
		{nil, []int64{0}, impl.Traffic{}, 0, impl.ErrState}, {nil, []int64{1, 2, 2}, impl.Traffic{}, 0, impl.ErrState}, {nil, []int64{2, 1, 2}, impl.Traffic{}, 0, impl.ErrState}, {nil, []int64{2, 2, 0, 1}, impl.Traffic{}, 0, impl.ErrState}, {nil, []int64{2, 2, 1, 0}, impl.Traffic{}, 0, impl.ErrState},
		// A block that is reported as occupied without a train.
		{faults(fault(3, 0, isOccupied)), []int64{2}, impl.Traffic{}, 0, impl.ErrState}, {faults(fault(3, 1, isOccupied)), []int64{2}, impl.Traffic{}, 0, impl.ErrState}, {faults(fault(2, 1, isOccupied)), []int64{2, 2, 1}, impl.Traffic{}, 0, impl.ErrState}, {faults(fault(0, 1, isOccupied)), []int64{2, 2, 1, 1}, traffic(4, 1, 6, 9), -1, impl.ErrNone},
		// Collisions behind the first move, one in the middle and the last one.
		{blind, []int64{0}, traffic(4, 2, 4, 7), 1, impl.ErrNone}, {blind, []int64{0, 2, 2}, traffic(4, 2, 4, 9), 1, impl.ErrNone}, {blind, []int64{2, 0, 2}, traffic(4, 2, 4, 9), 2, impl.ErrNone}, {blind, []int64{2, 2, 0}, traffic(4, 2, 4, 9), 3, impl.ErrNone}, {blind, []int64{2, 2, 1, 0}, traffic(4, 2, 5, 9), 4, impl.ErrNone}, {blind, []int64{2, 2, 1, 1, 0}, traffic(4, 2, 6, 9), -1, impl.ErrNone},
		// A traffic that is safe again behind a collision.
		{blind, []int64{2, 2, 0, 1, 1, 0}, traffic(4, 3, 6, 9), 3, impl.ErrNone},
		// A move that is not permitted behind a collision, and the same report behind it: the block 0 is clear.
		{blind, []int64{0, 1}, impl.Traffic{}, 0, impl.ErrState}, {blind, []int64{0, 0, 0, 0}, impl.Traffic{}, 0, impl.ErrState}, {blind, []int64{0, 0, 0}, traffic(4, 4, 4, 7), 1, impl.ErrNone},
		// One channel alone does not let trains collide.
		{blind[:1], []int64{0}, impl.Traffic{}, 0, impl.ErrState}, {blind[1:], []int64{0}, impl.Traffic{}, 0, impl.ErrState}, {blind[:1], []int64{2, 2, 1, 1, 0}, traffic(4, 2, 6, 9), -1, impl.ErrNone},
		// Trains that there are not, behind moves that are not permitted.
		{nil, []int64{3}, impl.Traffic{}, 0, impl.ErrRange}, {nil, []int64{-1}, impl.Traffic{}, 0, impl.ErrRange}, {nil, []int64{0, 3}, impl.Traffic{}, 0, impl.ErrRange}, {nil, []int64{2, 2, 0, 0, -1}, impl.Traffic{}, 0, impl.ErrRange}, {blind, []int64{math.MaxInt64, 0}, impl.Traffic{}, 0, impl.ErrRange}, {blind, []int64{0, math.MinInt64, 0}, impl.Traffic{}, 0, impl.ErrRange},
	} {
		checkControlled(t, x, c.list, c.trains, c.want, c.first, c.code)
	}
}

// TestRunsOfCollidedTraffics checks that the traffic of a run need not be safe.
func TestRunsOfCollidedTraffics(t *testing.T) {
	for _, c := range []struct {
		x      impl.Traffic
		trains []int64
		want   impl.Traffic
	}{
		{traffic(2, 0, 0), nil, traffic(2, 0, 0)}, {traffic(2, 0, 0), []int64{0, 0}, traffic(2, 2, 0)}, {traffic(2, 0, 0), []int64{0, 0, 0, 1, 0}, traffic(2, 4, 1)}, {traffic(2, 5, 2), []int64{0, 1}, traffic(2, 0, 3)}, {traffic(3, 1, 2), []int64{1}, traffic(3, 1, 3)},
		{traffic(4, 11, 11, 11, 11), []int64{3, 2, 1, 0}, traffic(4, 0, 0, 0, 0)}, {traffic(impl.MaxBlocks, 23, 22, 0, 21), []int64{3, 0, 2}, traffic(impl.MaxBlocks, 0, 22, 1, 22)},
	} {
		checkControlled(t, c.x, nil, c.trains, c.want, 0, impl.ErrNone)
	}
	checkNotControlled(t, traffic(2, 4, 0, 0), nil, []int64{0}, impl.ErrState)
	checkNotControlled(t, traffic(2, 1, 2, 0), nil, []int64{2, 0}, impl.ErrState)
	checkNotControlled(t, traffic(2, 0, 0), nil, []int64{0, 2}, impl.ErrRange)
}

func TestLengthsOfControlledRuns(t *testing.T) {
	longest := make([]int64, impl.MaxList)
	for _, x := range []impl.Traffic{traffic(2, 0), traffic(3, 8), traffic(impl.MaxBlocks, 23)} {
		behind := traffic(x.Blocks, (x.Places[0]+impl.MaxList)%(3*x.Blocks))
		checkControlled(t, x, nil, longest, behind, -1, impl.ErrNone)
		for _, list := range [][]impl.SensorFault{nil, bothStuck(0, isClear), faults(fault(-1, 0, isClear)), tooManyFaults()} {
			checkNotControlled(t, x, list, append(slices.Clone(longest), 0), impl.ErrLimit)
			checkNotControlled(t, x, list, make([]int64, 100000), impl.ErrLimit)
			checkNotControlled(t, x, list, append(slices.Clone(longest), -1), impl.ErrLimit)
			checkNotControlled(t, x, list, slices.Repeat([]int64{1}, impl.MaxList+1), impl.ErrLimit)
			checkNotControlled(t, x, list, append(slices.Clone(longest[1:]), 1), impl.ErrRange)
		}
	}
	// Both trains move on by a block, again and again, and the last move lets them collide.
	x, blind := traffic(3, 1, 4), bothStuck(1, isClear)
	around := slices.Repeat([]int64{1, 1, 0, 0, 0, 1}, impl.MaxList/6)
	checkControlled(t, x, blind, append(slices.Clone(around), 1), traffic(3, 1, 5), -1, impl.ErrNone)
	checkControlled(t, x, blind, append(slices.Clone(around), 1, 0), traffic(3, 2, 5), impl.MaxList, impl.ErrNone)
	checkNotControlled(t, x, blind[:1], append(slices.Clone(around), 1, 0), impl.ErrState)
	checkNotControlled(t, x, blind, append(slices.Clone(around), 1, 0, 0), impl.ErrLimit)
}

// TestLongControlledRuns lets trains move on for as long as a run may last, with tolerated faults
// and with others, and tries each train that would have to wait.
func TestLongControlledRuns(t *testing.T) {
	random := rand.New(rand.NewSource(13))
	for n := range int64(60) {
		blocks := 2 + n%(impl.MaxBlocks-1)
		start, list := mixedTraffic(random, blocks), mixedFaults(random, blocks)
		x, trains := start, []int64{}
		for len(trains) < impl.MaxList {
			permitted := permittedBy(x, reportBy(x, list))
			for train := range int64(len(x.Places)) {
				if !slices.Contains(permitted, train) && len(trains)%7 == 0 {
					checkNotControlled(t, start, list, append(slices.Clone(trains), train), impl.ErrState)
				}
			}
			if len(permitted) == 0 {
				break
			}
			train := permitted[random.Intn(len(permitted))]
			x, trains = movedBy(x, train), append(trains, train)
		}
		y, first, code := runBy(start, list, trains)
		if areToleratedBy(blocks, list) && isSafeBy(start) && first != -1 || code != impl.ErrNone || !sameTraffic(x, y) {
			t.Fatalf("the run %v of %v with %v collides", trains, start, list)
		}
		checkControlled(t, start, list, trains, x, first, impl.ErrNone)
	}
}

func TestArgumentsOfInterlocksAreNotChanged(t *testing.T) {
	places, moves := []int64{1, 4, 7, 77, 78}, []int64{2, 2, 0, 88}
	list := append(bothStuck(1, isClear), fault(77, 77, 77))
	first, second := []int64{0, 1, 0, 0, 77}, []int64{0, 0, 1, 0, 77}
	kept := slices.Concat(places, moves, first, second)
	keptFaults := slices.Clone(list)
	x, r := impl.Traffic{Blocks: 4, Places: places[:3]}, report(first[:4], second[:4])
	for range 2 {
		// A result that shared memory with an argument, or with another result, would change it.
		reported, _ := impl.ReportOf(x, list[:2])
		spoil(reported.First)
		if !slices.Equal(reported.Second, []int64{1, 0, 1, 0}) {
			t.Errorf("the second channel reported %v", reported.Second)
		}
		again, _ := impl.ReportOf(x, list[:2])
		if !sameReport(again, report([]int64{1, 0, 1, 0}, []int64{1, 0, 1, 0})) {
			t.Errorf("the channels reported %v", again)
		}
		clear, _ := impl.ClearBlocks(4, r)
		different, _ := impl.Discrepancies(4, r)
		permitted, _ := impl.PermittedMoves(x, r)
		run, _ := impl.ControlledRun(x, list[:2], moves[:3])
		stood, _ := impl.ControlledRun(x, list[:2], nil)
		checkControlled(t, x, list[:2], moves[:3], traffic(4, 2, 4, 9), 3, impl.ErrNone)
		checkNotControlled(t, x, nil, moves[:3], impl.ErrState)
		checkFaults(t, 4, list[:2], true, false)
		for _, result := range [][]int64{reported.Second, clear, different, permitted, run.Places, stood.Places} {
			spoil(result)
		}
	}
	if !slices.Equal(slices.Concat(places, moves, first, second), kept) || !slices.Equal(list, keptFaults) {
		t.Errorf("the places became %v, the moves %v, the values %v and %v, the faults %v", places, moves, first, second, list)
	}
}

// TestReportsAreTheSameInEveryRun asks often, as both channels report at the same time.
func TestReportsAreTheSameInEveryRun(t *testing.T) {
	x := traffic(impl.MaxBlocks, 23, 7, 10, 17)
	list := faults(fault(0, 0, isClear), fault(7, 1, isClear), fault(4, 0, isOccupied), fault(3, 1, isOccupied), fault(3, 0, isClear))
	want := reportBy(x, list)
	for range 3000 {
		checkReport(t, x, list, want, impl.ErrNone)
		checkControlled(t, x, list, []int64{0, 3, 0}, traffic(impl.MaxBlocks, 1, 7, 10, 18), -1, impl.ErrNone)
	}
}
