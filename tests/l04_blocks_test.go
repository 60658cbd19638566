package tests

import (
	"fmt"
	"math"
	"slices"
	"testing"

	"loop.example/g00916/impl"
)

// far are numbers that are no segment, position or block of any layout.
var far = []int64{-1, -2, -1000, impl.MaxSegments * impl.MaxLength, math.MaxInt64, math.MaxInt64 - 1, math.MinInt64, math.MinInt64 + 1}

// near are numbers that may be a segment, position or block.
var near = []int64{0, 1, 2, 3, 6, 7, 8, 24, 500}

// holders returns a circuit with a number of segments that hold, each with a plain one in front of
// it, so that the block i ends with the segment 2 * i + 1.
func holders(count int) impl.Layout {
	holding := []int64{impl.SegmentBrake, impl.SegmentLift, impl.SegmentStation}
	var list []impl.Segment
	for i := range count {
		list = append(list, plain(int64(100+i), 0), device(holding[i%len(holding)], int64(10+i), 0))
	}
	list[len(list)-1].Kind = impl.SegmentStation
	return circuit(list...)
}

// rising returns the list of the first numbers from 0 on.
func rising(count int) []int64 {
	var list []int64
	for i := range count {
		list = append(list, int64(i))
	}
	return list
}

// even returns the list of the first even numbers from 0 on.
func even(count int) []int64 {
	list := rising(count)
	for i := range list {
		list[i] *= 2
	}
	return list
}

func checkAreBlocks(t *testing.T, l impl.Layout, firsts []int64, want bool) {
	t.Helper()
	if got := impl.AreBlocks(l, firsts); got != want {
		t.Errorf("AreBlocks(%v, %v) = %v", l, firsts, got)
	}
}

func checkDefaultBlocks(t *testing.T, l impl.Layout, want []int64, code int64) {
	t.Helper()
	if list, c := impl.DefaultBlocks(l); !slices.Equal(list, want) || c != code {
		t.Errorf("DefaultBlocks(%v) = %v, %d; want %v, %d", l, list, c, want, code)
	}
}

// lookup is one of the functions that find a number for a segment, a position or a block.
type lookup struct {
	name string
	do   func(impl.Layout, []int64, int64) (int64, int64)
}

var (
	ofSegment  = lookup{"BlockOfSegment", impl.BlockOfSegment}
	atPosition = lookup{"BlockAt", impl.BlockAt}
	lengthOf   = lookup{"BlockLength", impl.BlockLength}
	startOf    = lookup{"BlockStart", impl.BlockStart}
	holderOf   = lookup{"HoldingSegment", impl.HoldingSegment}
	lookups    = []lookup{ofSegment, atPosition, lengthOf, startOf, holderOf}
)

func checkLookup(t *testing.T, f lookup, l impl.Layout, firsts []int64, n int64, want int64, code int64) {
	t.Helper()
	if got, c := f.do(l, firsts, n); got != want || c != code {
		t.Errorf("%s(%v, %v, %d) = %d, %d; want %d, %d", f.name, l, firsts, n, got, c, want, code)
	}
}

func checkMerged(t *testing.T, l impl.Layout, firsts []int64, block int64, want []int64, code int64) {
	t.Helper()
	if list, c := impl.MergeBlocks(l, firsts, block); !slices.Equal(list, want) || c != code {
		t.Errorf("MergeBlocks(%v, %v, %d) = %v, %d; want %v, %d", l, firsts, block, list, c, want, code)
	}
}

// checkNoBlocks checks what all functions with a list return for one that is not blocks of l, also
// for numbers that would give ErrRange, which comes after ErrInvalid.
func checkNoBlocks(t *testing.T, l impl.Layout, firsts []int64) {
	t.Helper()
	checkAreBlocks(t, l, firsts, false)
	for _, n := range slices.Concat(near, far) {
		for _, f := range lookups {
			checkLookup(t, f, l, firsts, n, 0, impl.ErrInvalid)
		}
		checkMerged(t, l, firsts, n, nil, impl.ErrInvalid)
	}
}

// blockLists returns all blocks of a layout, by their definition.
func blockLists(l impl.Layout) [][]int64 {
	lists := [][]int64{{0}}
	for i, x := range l.Segments[:len(l.Segments)-1] {
		if !kinds[x.Kind].holds {
			continue
		}
		for _, list := range lists {
			if len(list) < impl.MaxBlocks {
				lists = append(lists, append(slices.Clone(list), int64(i+1)))
			}
		}
	}
	return slices.DeleteFunc(lists, func(list []int64) bool { return len(list) < 2 })
}

// blockedLayouts are layouts with few, many, short and long blocks.
func blockedLayouts() []impl.Layout {
	long := circuit(plain(impl.MaxLength, impl.MaxRise), device(impl.SegmentLift, impl.MaxLength, 0), plain(impl.MaxLength, -impl.MaxRise), station(impl.MaxLength))
	stations := circuit(station(1), station(1), station(1), station(2))
	return []impl.Layout{hills(), holders(2), holders(3), holders(impl.MaxBlocks - 1), holders(impl.MaxBlocks), long, stations}
}

func TestMaxBlocks(t *testing.T) {
	if impl.MaxBlocks != 8 {
		t.Errorf("MaxBlocks = %d", impl.MaxBlocks)
	}
}

func TestNumbersOfBlocks(t *testing.T) {
	for count := 2; count <= impl.MaxBlocks; count++ {
		checkAreBlocks(t, greatest(), rising(count), true)
		checkAreBlocks(t, holders(count), even(count), true)
		checkAreBlocks(t, holders(impl.MaxSegments/2), even(count), true)
	}
	for _, count := range []int{0, 1, impl.MaxBlocks + 1, impl.MaxBlocks + 2, impl.MaxSegments - 1, impl.MaxSegments} {
		checkNoBlocks(t, greatest(), rising(count))
	}
	checkNoBlocks(t, holders(impl.MaxBlocks+1), even(impl.MaxBlocks+1))
	checkNoBlocks(t, holders(2), even(1))
	checkNoBlocks(t, holders(2), []int64{})
	checkNoBlocks(t, greatest(), slices.Repeat([]int64{0}, 100000))
}

func TestBlocksBeginWithZero(t *testing.T) {
	for _, firsts := range [][]int64{{1, 2}, {2, 4}, {2, 6}, {1, 6}, {-1, 1}, {-1, 0}, {-1, 0, 1}, {math.MinInt64, 0}, {math.MinInt64, 1}} {
		checkNoBlocks(t, greatest(), firsts)
		checkNoBlocks(t, hills(), firsts)
		checkNoBlocks(t, holders(4), firsts)
	}
}

func TestBlocksAreStrictlyIncreasing(t *testing.T) {
	for _, firsts := range [][]int64{
		{0, 0}, {0, 0, 1}, {0, 1, 1}, {0, 1, 0}, {0, 2, 1}, {0, 3, 2}, {0, 1, 2, 2}, {0, 1, 3, 2}, {0, 2, 1, 3}, {0, 5, 4, 3},
		{0, -1}, {0, 1, -1}, {0, 1, 2, -3}, {0, math.MinInt64}, {0, 1, math.MinInt64},
	} {
		checkNoBlocks(t, greatest(), firsts)
	}
	for _, firsts := range [][]int64{{0, 6, 1}, {0, 1, 1}, {0, 6, 6}, {0, 1, 6, 1}} {
		checkNoBlocks(t, hills(), firsts)
	}
}

func TestBlocksBeginInTheLayout(t *testing.T) {
	for _, l := range blockedLayouts() {
		// The segment before the index count holds, but there is none with this index.
		count := int64(len(l.Segments))
		two := blockLists(l)[0]
		checkAreBlocks(t, l, two, true)
		for _, outside := range []int64{count, count + 1, 2 * count, 1000, math.MaxInt64} {
			checkNoBlocks(t, l, []int64{0, outside})
			checkNoBlocks(t, l, append(slices.Clone(two), outside))
		}
	}
	last := int64(impl.MaxSegments - 1)
	checkAreBlocks(t, greatest(), []int64{0, last}, true)
	checkNoBlocks(t, greatest(), []int64{0, last + 1})
	checkNoBlocks(t, greatest(), []int64{0, last, last + 1})
}

func TestBlocksEndWithASegmentThatHolds(t *testing.T) {
	l := hills()
	for _, firsts := range [][]int64{{0, 1}, {0, 6}, {0, 1, 6}} {
		checkAreBlocks(t, l, firsts, true)
	}
	for _, firsts := range [][]int64{
		{0, 2}, {0, 3}, {0, 4}, {0, 5}, {0, 1, 2}, {0, 1, 5}, {0, 2, 6}, {0, 3, 6}, {0, 5, 6}, {0, 1, 2, 6}, {0, 1, 3, 6}, {0, 1, 4, 6}, {0, 1, 5, 6}, {0, 1, 2, 3, 4, 5, 6},
	} {
		checkNoBlocks(t, l, firsts)
	}
	for kind := range kinds {
		x := sample(int64(kind))
		x.Rise = 0
		if l := circuit(plain(9, 0), x, plain(9, 0), station(9)); kinds[kind].holds {
			checkAreBlocks(t, l, []int64{0, 2}, true)
			checkDefaultBlocks(t, l, []int64{0, 2}, impl.ErrNone)
		} else {
			checkNoBlocks(t, l, []int64{0, 2})
			checkDefaultBlocks(t, l, nil, impl.ErrState)
		}
		// It is the segment before a block that has to hold, not its first one.
		checkNoBlocks(t, circuit(plain(9, 0), x, plain(9, 0), station(9)), []int64{0, 1})
		checkNoBlocks(t, circuit(plain(9, 0), x, plain(9, 0), station(9)), []int64{0, 3})
	}
}

// TestAllLists checks AreBlocks for each list of rising segments of a layout.
func TestAllLists(t *testing.T) {
	for _, l := range []impl.Layout{hills(), holders(5), circuit(append(holders(2).Segments, hills().Segments...)...)} {
		blocks := map[string]bool{}
		for _, list := range blockLists(l) {
			blocks[fmt.Sprint(list)] = true
		}
		found := 0
		for set := range 1 << len(l.Segments) {
			list := slices.DeleteFunc(rising(len(l.Segments)), func(i int64) bool { return set>>i&1 == 0 })
			want := blocks[fmt.Sprint(list)]
			checkAreBlocks(t, l, list, want)
			if want {
				found++
			}
		}
		if found != len(blocks) || found == 0 {
			t.Errorf("%d blocks of %v, %d among the lists", len(blocks), l, found)
		}
	}
}

// TestBlocksOfInvalidLayouts checks that the layout is held against its rules before anything else.
func TestBlocksOfInvalidLayouts(t *testing.T) {
	high := hills()
	high.Segments[0].Rise++
	weak := hills()
	weak.Segments[5].Force = span(0, 0)
	strange := hills()
	strange.Segments[3].Kind = 5
	endless := circuit(append(hills().Segments, plain(10, 0))...)
	for _, l := range []impl.Layout{{}, circuit(station(5)), holders(1), holders(impl.MaxSegments/2 + 1), flat(2), flat(impl.MaxSegments + 1), high, weak, strange, endless} {
		checkDefaultBlocks(t, l, nil, impl.ErrInvalid)
		for _, firsts := range [][]int64{nil, {}, {0}, {0, 1}, {0, 2}, {0, 1, 6}, {0, 6}, even(3), even(8), even(9), {1, 6}, {0, 100}, {-1}, {0, math.MinInt64}} {
			checkNoBlocks(t, l, firsts)
		}
	}
	// Too few blocks would give ErrState, too many ErrLimit, both after ErrInvalid.
	none := flat(4)
	none.Segments[0].Length = 0
	checkDefaultBlocks(t, none, nil, impl.ErrInvalid)
	many := greatest()
	many.Segments[23].Rise++
	checkDefaultBlocks(t, many, nil, impl.ErrInvalid)
	checkDefaultBlocks(t, circuit(append(greatest().Segments, station(1))...), nil, impl.ErrInvalid)
}

func TestDefaultBlocks(t *testing.T) {
	checkDefaultBlocks(t, hills(), []int64{0, 1, 6}, impl.ErrNone)
	checkDefaultBlocks(t, circuit(station(1), plain(1, 0), station(1)), []int64{0, 1}, impl.ErrNone)
	checkDefaultBlocks(t, circuit(plain(1, 0), station(1), station(1)), []int64{0, 2}, impl.ErrNone)
	checkDefaultBlocks(t, circuit(station(1), station(1), station(1)), []int64{0, 1, 2}, impl.ErrNone)
	checkDefaultBlocks(t, circuit(append(hills().Segments, hills().Segments...)...), []int64{0, 1, 6, 7, 8, 13}, impl.ErrNone)
	late := append(slices.Repeat([]impl.Segment{plain(1, 0)}, impl.MaxSegments-2), device(impl.SegmentBrake, 1, 0), station(1))
	checkDefaultBlocks(t, circuit(late...), []int64{0, impl.MaxSegments - 1}, impl.ErrNone)
}

func TestNumbersOfDefaultBlocks(t *testing.T) {
	for count := 2; count <= impl.MaxSegments/2; count++ {
		if count <= impl.MaxBlocks {
			checkDefaultBlocks(t, holders(count), even(count), impl.ErrNone)
		} else {
			checkDefaultBlocks(t, holders(count), nil, impl.ErrLimit)
		}
	}
	for count := 3; count <= impl.MaxSegments; count++ {
		l := circuit(slices.Repeat([]impl.Segment{station(7)}, count)...)
		if count <= impl.MaxBlocks {
			checkDefaultBlocks(t, l, rising(count), impl.ErrNone)
		} else {
			checkDefaultBlocks(t, l, nil, impl.ErrLimit)
		}
		checkDefaultBlocks(t, flat(count), nil, impl.ErrState)
	}
	checkDefaultBlocks(t, circuit(device(impl.SegmentLaunch, 9, 3), plain(9, -3), device(impl.SegmentLaunch, 9, 0), station(9)), nil, impl.ErrState)
}

// TestDefaultBlocksAreTheFinest checks that the default blocks are the longest list of blocks, each
// with only its last segment holding.
func TestDefaultBlocksAreTheFinest(t *testing.T) {
	for _, l := range blockedLayouts() {
		firsts, code := impl.DefaultBlocks(l)
		lists := blockLists(l)
		if code != impl.ErrNone || !slices.Equal(firsts, lists[len(lists)-1]) {
			t.Errorf("DefaultBlocks(%v) = %v, %d", l, firsts, code)
		}
		checkAreBlocks(t, l, firsts, true)
		for i, x := range l.Segments {
			block, _ := impl.BlockOfSegment(l, firsts, int64(i))
			holder, _ := impl.HoldingSegment(l, firsts, block)
			if (holder == int64(i)) != kinds[x.Kind].holds {
				t.Errorf("segment %d of %v: block %d holds at %d", i, l, block, holder)
			}
		}
	}
}

func TestBlocksOfHills(t *testing.T) {
	for _, c := range []struct {
		firsts, starts, lengths, holders []int64
		ofSegments                       []int64
	}{
		{[]int64{0, 1, 6}, []int64{0, 7, 46}, []int64{7, 39, 4}, []int64{0, 5, 6}, []int64{0, 1, 1, 1, 1, 1, 2}},
		{[]int64{0, 6}, []int64{0, 46}, []int64{46, 4}, []int64{5, 6}, []int64{0, 0, 0, 0, 0, 0, 1}},
		{[]int64{0, 1}, []int64{0, 7}, []int64{7, 43}, []int64{0, 6}, []int64{0, 1, 1, 1, 1, 1, 1}},
	} {
		for block := range c.firsts {
			n := int64(block)
			checkLookup(t, startOf, hills(), c.firsts, n, c.starts[block], impl.ErrNone)
			checkLookup(t, lengthOf, hills(), c.firsts, n, c.lengths[block], impl.ErrNone)
			checkLookup(t, holderOf, hills(), c.firsts, n, c.holders[block], impl.ErrNone)
		}
		for segment, block := range c.ofSegments {
			checkLookup(t, ofSegment, hills(), c.firsts, int64(segment), block, impl.ErrNone)
		}
	}
	for _, c := range []struct{ position, block int64 }{{0, 0}, {6, 0}, {7, 1}, {8, 1}, {12, 1}, {45, 1}, {46, 2}, {49, 2}} {
		checkLookup(t, atPosition, hills(), []int64{0, 1, 6}, c.position, c.block, impl.ErrNone)
	}
}

// checkOneBlock checks a block by its definition: it covers the segments from first to last, and
// begins at the position start. It returns the length of the block.
func checkOneBlock(t *testing.T, l impl.Layout, firsts []int64, block int64, last int64, start int64) int64 {
	t.Helper()
	length := int64(0)
	for segment := firsts[block]; segment <= last; segment++ {
		checkLookup(t, ofSegment, l, firsts, segment, block, impl.ErrNone)
		checkLookup(t, atPosition, l, firsts, start+length, block, impl.ErrNone)
		length += l.Segments[segment].Length
		checkLookup(t, atPosition, l, firsts, start+length-1, block, impl.ErrNone)
	}
	checkLookup(t, holderOf, l, firsts, block, last, impl.ErrNone)
	checkLookup(t, startOf, l, firsts, block, start, impl.ErrNone)
	checkLookup(t, lengthOf, l, firsts, block, length, impl.ErrNone)
	if !impl.Holds(l.Segments[last]) {
		t.Errorf("block %d of %v, %v does not end with a segment that holds", block, l, firsts)
	}
	return length
}

func TestBlocksAddUpToTheTrack(t *testing.T) {
	for _, l := range blockedLayouts() {
		track, _ := impl.TrackLength(l)
		for _, firsts := range blockLists(l) {
			start := int64(0)
			for i := range firsts {
				last := int64(len(l.Segments) - 1)
				if i+1 < len(firsts) {
					last = firsts[i+1] - 1
				}
				start += checkOneBlock(t, l, firsts, int64(i), last, start)
			}
			if start != track {
				t.Errorf("the blocks %v of %v are %d long, the track %d", firsts, l, start, track)
			}
		}
	}
}

func TestEachPositionIsInOneBlock(t *testing.T) {
	for _, l := range []impl.Layout{hills(), holders(3), circuit(station(1), station(1), station(1))} {
		track, _ := impl.TrackLength(l)
		for _, firsts := range blockLists(l) {
			for position := range track {
				var in []int64
				for block := range int64(len(firsts)) {
					start, _ := impl.BlockStart(l, firsts, block)
					length, _ := impl.BlockLength(l, firsts, block)
					if position >= start && position < start+length {
						in = append(in, block)
					}
				}
				if len(in) != 1 {
					t.Fatalf("position %d of %v, %v is in the blocks %v", position, l, firsts, in)
				}
				checkLookup(t, atPosition, l, firsts, position, in[0], impl.ErrNone)
				segment, _, _ := impl.SegmentAt(l, position)
				checkLookup(t, ofSegment, l, firsts, segment, in[0], impl.ErrNone)
			}
		}
	}
}

func TestNumbersOutsideOfTheLayout(t *testing.T) {
	for _, l := range blockedLayouts() {
		track, _ := impl.TrackLength(l)
		segments := int64(len(l.Segments))
		for _, firsts := range blockLists(l) {
			blocks := int64(len(firsts))
			checkLookup(t, ofSegment, l, firsts, segments-1, blocks-1, impl.ErrNone)
			checkLookup(t, atPosition, l, firsts, track-1, blocks-1, impl.ErrNone)
			for _, n := range append([]int64{segments, segments + 1, 2 * segments, track}, far...) {
				checkLookup(t, ofSegment, l, firsts, n, 0, impl.ErrRange)
			}
			for _, n := range append([]int64{track, track + 1, 2 * track}, far...) {
				checkLookup(t, atPosition, l, firsts, n, 0, impl.ErrRange)
			}
			for _, n := range append([]int64{blocks, blocks + 1, 2 * blocks, segments, track}, far...) {
				checkLookup(t, lengthOf, l, firsts, n, 0, impl.ErrRange)
				checkLookup(t, startOf, l, firsts, n, 0, impl.ErrRange)
				checkLookup(t, holderOf, l, firsts, n, 0, impl.ErrRange)
				// With two blocks, or behind the last one, ErrState comes after ErrRange.
				checkMerged(t, l, firsts, n, nil, impl.ErrRange)
			}
		}
	}
}

func TestMergedBlocks(t *testing.T) {
	checkMerged(t, hills(), []int64{0, 1, 6}, 0, []int64{0, 6}, impl.ErrNone)
	checkMerged(t, hills(), []int64{0, 1, 6}, 1, []int64{0, 1}, impl.ErrNone)
	checkMerged(t, hills(), []int64{0, 1, 6}, 2, nil, impl.ErrState)
	for _, firsts := range [][]int64{{0, 1}, {0, 6}} {
		checkMerged(t, hills(), firsts, 0, nil, impl.ErrState)
		checkMerged(t, hills(), firsts, 1, nil, impl.ErrState)
	}
	eight := even(impl.MaxBlocks)
	for block := range int64(impl.MaxBlocks - 1) {
		want := slices.Delete(slices.Clone(eight), int(block)+1, int(block)+2)
		checkMerged(t, holders(impl.MaxBlocks), eight, block, want, impl.ErrNone)
		checkMerged(t, holders(impl.MaxSegments/2), eight, block, want, impl.ErrNone)
	}
	checkMerged(t, holders(impl.MaxBlocks), eight, impl.MaxBlocks-1, nil, impl.ErrState)
	checkMerged(t, holders(impl.MaxSegments/2), eight, impl.MaxBlocks-1, nil, impl.ErrState)
}

// checkBecameOne checks that block and the one behind it are one block of the merged ones.
func checkBecameOne(t *testing.T, l impl.Layout, firsts []int64, merged []int64, block int64) {
	t.Helper()
	start, _ := impl.BlockStart(l, firsts, block)
	length, _ := impl.BlockLength(l, firsts, block)
	behind, _ := impl.BlockLength(l, firsts, block+1)
	holder, _ := impl.HoldingSegment(l, firsts, block+1)
	checkLookup(t, startOf, l, merged, block, start, impl.ErrNone)
	checkLookup(t, lengthOf, l, merged, block, length+behind, impl.ErrNone)
	checkLookup(t, holderOf, l, merged, block, holder, impl.ErrNone)
	for segment := range int64(len(l.Segments)) {
		old, _ := impl.BlockOfSegment(l, firsts, segment)
		if old > block {
			old--
		}
		checkLookup(t, ofSegment, l, merged, segment, old, impl.ErrNone)
	}
}

func TestMergedBlocksBecomeOne(t *testing.T) {
	for _, l := range blockedLayouts() {
		for _, firsts := range blockLists(l) {
			last := int64(len(firsts) - 1)
			checkMerged(t, l, firsts, last, nil, impl.ErrState)
			for block := range last {
				merged, code := impl.MergeBlocks(l, firsts, block)
				if len(firsts) == 2 {
					checkMerged(t, l, firsts, block, nil, impl.ErrState)
					continue
				}
				if code != impl.ErrNone || len(merged) != len(firsts)-1 || !impl.AreBlocks(l, merged) {
					t.Fatalf("MergeBlocks(%v, %v, %d) = %v, %d", l, firsts, block, merged, code)
				}
				checkBecameOne(t, l, firsts, merged, block)
			}
		}
	}
}

func TestArgumentsOfBlocksAreNotChanged(t *testing.T) {
	spare := []int64{0, 1, 6, 77, 78}
	segments := append(hills().Segments, plain(77, 7))
	firsts, l := spare[:3], circuit(segments[:7]...)
	keptFirsts, keptSegments := slices.Clone(spare), slices.Clone(segments)
	for block := range int64(3) {
		impl.AreBlocks(l, firsts)
		for _, f := range lookups {
			f.do(l, firsts, block)
		}
		for range 2 {
			// A result that shared memory with the list would change it here.
			merged, _ := impl.MergeBlocks(l, firsts, block)
			for i := range merged[:cap(merged)] {
				merged[:cap(merged)][i] = -5
			}
		}
	}
	list, _ := impl.DefaultBlocks(l)
	list[1] = -5
	checkDefaultBlocks(t, l, []int64{0, 1, 6}, impl.ErrNone)
	if !slices.Equal(spare, keptFirsts) || !slices.Equal(segments, keptSegments) {
		t.Errorf("the blocks became %v, the layout %v", spare, segments)
	}
}
