package tests

import (
	"fmt"
	"math"
	"math/rand"
	"slices"
	"strings"
	"testing"

	"loop.example/g00916/impl"
)

// blockTexts are function blocks of all kinds, with the least and the greatest numbers and some between
// them.
var blockTexts = []string{
	"on 0", "on 1", "on 2", "on 3", "on 4", "on 9998", "on 9999", "off 0", "off 1", "off 2", "off 3", "off 4", "off 9998", "off 9999", "rise", "latch",
	"count 0", "count 1", "count 2", "count 3", "count 4", "count 9998", "count 9999", "pair 0", "pair 1", "pair 2", "pair 3", "pair 4", "pair 9998", "pair 9999",
}

// functionBlock returns the term of a function block with some words.
func functionBlock(text string) impl.Term { return terms(text)[0] }

func blockState(a int64, b int64, c int64) impl.BlockState { return impl.BlockState{A: a, B: b, C: c} }

// args returns the arguments with some digits.
func args(text string) []int64 {
	var list []int64
	for _, digit := range text {
		list = append(list, int64(digit-'0'))
	}
	return list
}

// argsOf returns lists of arguments, each of them with some digits.
func argsOf(texts ...string) [][]int64 {
	var list [][]int64
	for _, text := range texts {
		list = append(list, args(text))
	}
	return list
}

// allArgs returns all arguments that a function block can get.
func allArgs(one impl.Term) [][]int64 {
	if takenValues[one.Kind] == 1 {
		return argsOf("0", "1")
	}
	return argsOf("00", "01", "10", "11")
}

// noArgsOf returns lists that are no arguments of a function block.
func noArgsOf(one impl.Term) [][]int64 {
	list := [][]int64{nil, {}, {0, 0, 0}, {1, 1, 1}, make([]int64, 100)}
	if takenValues[one.Kind] == 1 {
		list = append(list, allArgs(functionBlock("latch"))...)
	} else {
		list = append(list, argsOf("0", "1")...)
	}
	for _, right := range allArgs(one) {
		for i := range right {
			for _, n := range []int64{-1, 2, 256, 1 << 32, 1<<32 + 1, math.MinInt64, math.MinInt64 + 1, math.MaxInt64} {
				wrong := slices.Clone(right)
				wrong[i] = n
				list = append(list, wrong)
			}
		}
	}
	return list
}

// noBlocks returns terms that are not as described in chapter 13, or that are and are no blocks.
func noBlocks() []impl.Term {
	list := []impl.Term{{}, {Kind: -1}, {Kind: 13}, {Kind: -7}, {Kind: 256 + impl.TermOn}, {Kind: 1<<32 + impl.TermOn}, {Kind: math.MinInt64}, {Kind: math.MaxInt64}, {Kind: impl.TermName}, {Name: "on"}, {Name: "on", Number: 3}}
	list = append(list, terms("a on_ true false not and or")...)
	for kind := int64(impl.TermTrue); kind <= impl.TermPair; kind++ {
		for _, name := range []string{"a", operators[kind], " ", "0"} {
			list = append(list, impl.Term{Kind: kind, Name: name})
		}
		for _, number := range []int64{math.MinInt64, -9999, -1, impl.MaxCount + 1, 1 << 32, math.MaxInt64} {
			list = append(list, impl.Term{Kind: kind, Number: number})
		}
		for _, number := range []int64{1, impl.MaxCount} {
			if !haveNumbers[kind] {
				list = append(list, impl.Term{Kind: kind, Number: number})
			} else {
				list = append(list, impl.Term{Kind: kind, Name: "a", Number: number})
			}
		}
	}
	return list
}

// isPossibleBy tells whether a state is possible for a function block, by the definition.
func isPossibleBy(one impl.Term, s impl.BlockState) bool {
	n := one.Number
	switch one.Kind {
	case impl.TermOn, impl.TermOff:
		return 0 <= s.A && s.A <= n && s.B == 0 && s.C == 0
	case impl.TermRise, impl.TermLatch:
		return (s.A == 0 || s.A == 1) && s.B == 0 && s.C == 0
	case impl.TermCount:
		return 0 <= s.A && s.A <= n && (s.B == 0 || s.B == 1) && s.C == 0
	}
	return s.B == 0 && (0 <= s.A && s.A <= n && s.C == 0 || s.A == n+1 && s.C == 1)
}

// statesAround returns states of a function block, possible ones and others, with the numbers around
// the least and the greatest ones.
func statesAround(one impl.Term) []impl.BlockState {
	numbers := []int64{math.MinInt64, math.MinInt64 + 1, -2, -1, 0, 1, 2, 3, 4, 5, one.Number - 2, one.Number - 1, one.Number, one.Number + 1, one.Number + 2, 1 << 32, math.MaxInt64}
	slices.Sort(numbers)
	var list []impl.BlockState
	for _, a := range slices.Compact(numbers) {
		for _, b := range []int64{math.MinInt64, -1, 0, 1, 2, 1 << 32, math.MaxInt64} {
			for _, c := range []int64{math.MinInt64, -1, 0, 1, 2, 1 << 32, math.MaxInt64} {
				list = append(list, blockState(a, b, c))
			}
		}
	}
	return list
}

// possibleAround returns the states of statesAround that are possible.
func possibleAround(one impl.Term) []impl.BlockState {
	return slices.DeleteFunc(statesAround(one), func(s impl.BlockState) bool { return !isPossibleBy(one, s) })
}

// stepBy returns the value of a function block and its state after a scan, sentence by sentence as they
// are described.
func stepBy(one impl.Term, s impl.BlockState, given []int64) (int64, impl.BlockState) {
	n, x, y, is := one.Number, given[0], given[len(given)-1], false
	switch one.Kind {
	case impl.TermOn:
		if x == 1 {
			s.A++
			if s.A > n {
				s.A = n
			}
		} else {
			s.A = 0
		}
		is = x == 1 && s.A == n
	case impl.TermOff:
		if x == 1 {
			s.A, is = n, true
		} else if s.A > 0 {
			s.A, is = s.A-1, true
		}
	case impl.TermRise:
		is = x == 1 && s.A == 0
		s.A = x
	case impl.TermLatch:
		if y == 1 {
			s.A = 0
		} else if x == 1 {
			s.A = 1
		}
		is = s.A == 1
	case impl.TermCount:
		if y == 1 {
			s.A = 0
		} else if x == 1 && s.B == 0 {
			s.A++
			if s.A > n {
				s.A = n
			}
		}
		s.B = x
		is = s.A == n
	case impl.TermPair:
		if s.C == 1 && x == 0 && y == 0 {
			s.C, s.A = 0, 0
		}
		if s.C == 0 && x != y {
			s.A++
			if s.A > n {
				s.C = 1
			}
		} else if s.C == 0 {
			s.A = 0
		}
		is = x == 1 && y == 1 && s.C == 0
	}
	if is {
		return 1, s
	}
	return 0, s
}

// lastWith returns the index of the last scan that fulfils a condition, or -1.
func lastWith(scans int, holds func(scan int) bool) int {
	for scan := scans - 1; scan >= 0; scan-- {
		if holds(scan) {
			return scan
		}
	}
	return -1
}

// valueBy returns the value of a function block in the last of some scans, out of the arguments of all
// of them and without a state.
func valueBy(one impl.Term, list [][]int64) bool {
	n, last := int(one.Number), len(list)-1
	x := func(scan int) bool { return list[scan][0] == 1 }
	y := func(scan int) bool { return list[scan][1] == 1 }
	isRise := func(scan int) bool { return x(scan) && (scan == 0 || !x(scan-1)) }
	switch one.Kind {
	case impl.TermOn:
		without := lastWith(len(list), func(scan int) bool { return !x(scan) })
		return without < last && last-without >= n
	case impl.TermOff:
		with := lastWith(len(list), x)
		return with >= 0 && last-with <= n
	case impl.TermRise:
		return isRise(last)
	case impl.TermLatch:
		either := lastWith(len(list), func(scan int) bool { return x(scan) || y(scan) })
		return either >= 0 && !y(either)
	case impl.TermCount:
		rises := 0
		for scan := lastWith(len(list), y) + 1; scan <= last; scan++ {
			if isRise(scan) {
				rises++
			}
		}
		return rises >= n
	}
	return x(last) && y(last) && !isFaultyBy(n, list)
}

// isFaultyBy tells whether a pair is faulty behind some scans: after the last one in which both channels
// were 0, there were more than n with different channels, one after the other.
func isFaultyBy(n int, list [][]int64) bool {
	differ := 0
	for scan := lastWith(len(list), func(scan int) bool { return list[scan][0]+list[scan][1] == 0 }) + 1; scan < len(list); scan++ {
		if list[scan][0] == list[scan][1] {
			differ = 0
			continue
		}
		differ++
		if differ > n {
			return true
		}
	}
	return false
}

func checkIsBlock(t *testing.T, one impl.Term, want bool) {
	t.Helper()
	if got := impl.IsBlock(one); got != want {
		t.Errorf("IsBlock(%v) = %t", one, got)
	}
}

func checkPossible(t *testing.T, one impl.Term, s impl.BlockState, want bool) {
	t.Helper()
	if got := impl.IsPossible(one, s); got != want {
		t.Errorf("IsPossible(%v, %v) = %t", one, s, got)
	}
}

func checkStep(t *testing.T, one impl.Term, s impl.BlockState, given []int64, value int64, after impl.BlockState, code int64) {
	t.Helper()
	if got, gotAfter, gotCode := impl.StepBlock(one, s, given); got != value || gotAfter != after || gotCode != code {
		t.Errorf("StepBlock(%v, %v, %v) = %d, %v, %d, want %d, %v, %d", one, s, given, got, gotAfter, gotCode, value, after, code)
	}
}

func checkBlockRun(t *testing.T, one impl.Term, list [][]int64, values []int64, after impl.BlockState, code int64) {
	t.Helper()
	if got, gotAfter, gotCode := impl.RunBlock(one, list); !slices.Equal(got, values) || gotAfter != after || gotCode != code {
		t.Errorf("RunBlock(%v, %v) = %v, %v, %d, want %v, %v, %d", one, list, got, gotAfter, gotCode, values, after, code)
	}
}

func checkNoBlockRun(t *testing.T, one impl.Term, list [][]int64, code int64) {
	t.Helper()
	checkBlockRun(t, one, list, nil, impl.BlockState{}, code)
}

func checkScansUntil(t *testing.T, one impl.Term, s impl.BlockState, given []int64, want int64, code int64) {
	t.Helper()
	if got, gotCode := impl.ScansUntil(one, s, given); got != want || gotCode != code {
		t.Errorf("ScansUntil(%v, %v, %v) = %d, %d, want %d, %d", one, s, given, got, gotCode, want, code)
	}
}

func checkFaulty(t *testing.T, one impl.Term, s impl.BlockState, want bool, code int64) {
	t.Helper()
	if got, gotCode := impl.IsFaulty(one, s); got != want || gotCode != code {
		t.Errorf("IsFaulty(%v, %v) = %t, %d, want %t, %d", one, s, got, gotCode, want, code)
	}
}

func checkBlockText(t *testing.T, one impl.Term, s impl.BlockState, want string, code int64) {
	t.Helper()
	if got, gotCode := impl.BlockText(one, s); got != want || gotCode != code {
		t.Errorf("BlockText(%v, %v) = %q, %d, want %q, %d", one, s, got, gotCode, want, code)
	}
}

// checkNoScan checks the functions that want a state, and those that want arguments too, with a term or
// a state that is wrong.
func checkNoScan(t *testing.T, one impl.Term, s impl.BlockState, given []int64, code int64) {
	t.Helper()
	checkStep(t, one, s, given, 0, impl.BlockState{}, code)
	checkScansUntil(t, one, s, given, 0, code)
	checkFaulty(t, one, s, false, code)
	checkBlockText(t, one, s, "", code)
	checkPossible(t, one, s, false)
}

// stepAll makes some scans, one after the other, and returns their values and the state behind them.
func stepAll(t *testing.T, one impl.Term, s impl.BlockState, list [][]int64) ([]int64, impl.BlockState) {
	t.Helper()
	var values []int64
	for _, given := range list {
		value, after, code := impl.StepBlock(one, s, given)
		if code != impl.ErrNone || !impl.IsPossible(one, after) {
			t.Errorf("StepBlock(%v, %v, %v) = %d, %v, %d", one, s, given, value, after, code)
		}
		values, s = append(values, value), after
	}
	return values, s
}

// step is one scan: the state before it, the arguments, the value and the state behind it.
type step struct {
	before impl.BlockState
	given  string
	value  int64
	after  impl.BlockState
}

func TestStepsOfTimers(t *testing.T) {
	for text, steps := range map[string][]step{
		"on 0": {{blockState(0, 0, 0), "0", 0, blockState(0, 0, 0)}, {blockState(0, 0, 0), "1", 1, blockState(0, 0, 0)}},
		"on 1": {
			{blockState(0, 0, 0), "0", 0, blockState(0, 0, 0)}, {blockState(0, 0, 0), "1", 1, blockState(1, 0, 0)}, {blockState(1, 0, 0), "0", 0, blockState(0, 0, 0)}, {blockState(1, 0, 0), "1", 1, blockState(1, 0, 0)},
		},
		"on 4": {
			{blockState(0, 0, 0), "1", 0, blockState(1, 0, 0)}, {blockState(2, 0, 0), "1", 0, blockState(3, 0, 0)}, {blockState(3, 0, 0), "1", 1, blockState(4, 0, 0)}, {blockState(4, 0, 0), "1", 1, blockState(4, 0, 0)},
			{blockState(0, 0, 0), "0", 0, blockState(0, 0, 0)}, {blockState(2, 0, 0), "0", 0, blockState(0, 0, 0)}, {blockState(3, 0, 0), "0", 0, blockState(0, 0, 0)}, {blockState(4, 0, 0), "0", 0, blockState(0, 0, 0)},
		},
		"on 9999": {
			{blockState(0, 0, 0), "1", 0, blockState(1, 0, 0)}, {blockState(9997, 0, 0), "1", 0, blockState(9998, 0, 0)}, {blockState(9998, 0, 0), "1", 1, blockState(9999, 0, 0)}, {blockState(9999, 0, 0), "1", 1, blockState(9999, 0, 0)},
			{blockState(0, 0, 0), "0", 0, blockState(0, 0, 0)}, {blockState(9998, 0, 0), "0", 0, blockState(0, 0, 0)}, {blockState(9999, 0, 0), "0", 0, blockState(0, 0, 0)},
		},
		"off 0": {{blockState(0, 0, 0), "0", 0, blockState(0, 0, 0)}, {blockState(0, 0, 0), "1", 1, blockState(0, 0, 0)}},
		"off 1": {
			{blockState(0, 0, 0), "0", 0, blockState(0, 0, 0)}, {blockState(0, 0, 0), "1", 1, blockState(1, 0, 0)}, {blockState(1, 0, 0), "0", 1, blockState(0, 0, 0)}, {blockState(1, 0, 0), "1", 1, blockState(1, 0, 0)},
		},
		"off 4": {
			{blockState(0, 0, 0), "1", 1, blockState(4, 0, 0)}, {blockState(1, 0, 0), "1", 1, blockState(4, 0, 0)}, {blockState(4, 0, 0), "1", 1, blockState(4, 0, 0)},
			{blockState(0, 0, 0), "0", 0, blockState(0, 0, 0)}, {blockState(1, 0, 0), "0", 1, blockState(0, 0, 0)}, {blockState(2, 0, 0), "0", 1, blockState(1, 0, 0)}, {blockState(4, 0, 0), "0", 1, blockState(3, 0, 0)},
		},
		"off 9999": {
			{blockState(0, 0, 0), "1", 1, blockState(9999, 0, 0)}, {blockState(1, 0, 0), "1", 1, blockState(9999, 0, 0)}, {blockState(9999, 0, 0), "1", 1, blockState(9999, 0, 0)},
			{blockState(0, 0, 0), "0", 0, blockState(0, 0, 0)}, {blockState(1, 0, 0), "0", 1, blockState(0, 0, 0)}, {blockState(9999, 0, 0), "0", 1, blockState(9998, 0, 0)},
		},
	} {
		checkSteps(t, text, steps)
	}
}

func TestStepsOfLatchesAndCounters(t *testing.T) {
	for text, steps := range map[string][]step{
		"rise": {
			{blockState(0, 0, 0), "0", 0, blockState(0, 0, 0)}, {blockState(0, 0, 0), "1", 1, blockState(1, 0, 0)}, {blockState(1, 0, 0), "0", 0, blockState(0, 0, 0)}, {blockState(1, 0, 0), "1", 0, blockState(1, 0, 0)},
		},
		"latch": {
			{blockState(0, 0, 0), "00", 0, blockState(0, 0, 0)}, {blockState(0, 0, 0), "01", 0, blockState(0, 0, 0)}, {blockState(0, 0, 0), "10", 1, blockState(1, 0, 0)}, {blockState(0, 0, 0), "11", 0, blockState(0, 0, 0)},
			{blockState(1, 0, 0), "00", 1, blockState(1, 0, 0)}, {blockState(1, 0, 0), "01", 0, blockState(0, 0, 0)}, {blockState(1, 0, 0), "10", 1, blockState(1, 0, 0)}, {blockState(1, 0, 0), "11", 0, blockState(0, 0, 0)},
		},
		"count 0": {
			{blockState(0, 0, 0), "00", 1, blockState(0, 0, 0)}, {blockState(0, 0, 0), "01", 1, blockState(0, 0, 0)}, {blockState(0, 0, 0), "10", 1, blockState(0, 1, 0)}, {blockState(0, 0, 0), "11", 1, blockState(0, 1, 0)},
			{blockState(0, 1, 0), "00", 1, blockState(0, 0, 0)}, {blockState(0, 1, 0), "01", 1, blockState(0, 0, 0)}, {blockState(0, 1, 0), "10", 1, blockState(0, 1, 0)}, {blockState(0, 1, 0), "11", 1, blockState(0, 1, 0)},
		},
		"count 3": {
			{blockState(1, 0, 0), "00", 0, blockState(1, 0, 0)}, {blockState(1, 0, 0), "01", 0, blockState(0, 0, 0)}, {blockState(1, 0, 0), "10", 0, blockState(2, 1, 0)}, {blockState(1, 0, 0), "11", 0, blockState(0, 1, 0)},
			{blockState(1, 1, 0), "00", 0, blockState(1, 0, 0)}, {blockState(1, 1, 0), "01", 0, blockState(0, 0, 0)}, {blockState(1, 1, 0), "10", 0, blockState(1, 1, 0)}, {blockState(1, 1, 0), "11", 0, blockState(0, 1, 0)},
			{blockState(2, 0, 0), "00", 0, blockState(2, 0, 0)}, {blockState(2, 0, 0), "01", 0, blockState(0, 0, 0)}, {blockState(2, 0, 0), "10", 1, blockState(3, 1, 0)}, {blockState(2, 0, 0), "11", 0, blockState(0, 1, 0)},
			{blockState(2, 1, 0), "10", 0, blockState(2, 1, 0)}, {blockState(3, 0, 0), "00", 1, blockState(3, 0, 0)}, {blockState(3, 0, 0), "01", 0, blockState(0, 0, 0)}, {blockState(3, 0, 0), "10", 1, blockState(3, 1, 0)},
			{blockState(3, 0, 0), "11", 0, blockState(0, 1, 0)}, {blockState(3, 1, 0), "00", 1, blockState(3, 0, 0)}, {blockState(3, 1, 0), "01", 0, blockState(0, 0, 0)}, {blockState(3, 1, 0), "10", 1, blockState(3, 1, 0)}, {blockState(3, 1, 0), "11", 0, blockState(0, 1, 0)},
		},
		"count 9999": {
			{blockState(9997, 0, 0), "10", 0, blockState(9998, 1, 0)}, {blockState(9998, 0, 0), "10", 1, blockState(9999, 1, 0)}, {blockState(9998, 1, 0), "10", 0, blockState(9998, 1, 0)}, {blockState(9999, 0, 0), "10", 1, blockState(9999, 1, 0)}, {blockState(9999, 1, 0), "01", 0, blockState(0, 0, 0)},
		},
	} {
		checkSteps(t, text, steps)
	}
}

func TestStepsOfPairs(t *testing.T) {
	for text, steps := range map[string][]step{
		"pair 0": {
			{blockState(0, 0, 0), "00", 0, blockState(0, 0, 0)}, {blockState(0, 0, 0), "01", 0, blockState(1, 0, 1)}, {blockState(0, 0, 0), "10", 0, blockState(1, 0, 1)}, {blockState(0, 0, 0), "11", 1, blockState(0, 0, 0)},
			{blockState(1, 0, 1), "00", 0, blockState(0, 0, 0)}, {blockState(1, 0, 1), "01", 0, blockState(1, 0, 1)}, {blockState(1, 0, 1), "10", 0, blockState(1, 0, 1)}, {blockState(1, 0, 1), "11", 0, blockState(1, 0, 1)},
		},
		"pair 3": {
			{blockState(0, 0, 0), "00", 0, blockState(0, 0, 0)}, {blockState(0, 0, 0), "01", 0, blockState(1, 0, 0)}, {blockState(0, 0, 0), "10", 0, blockState(1, 0, 0)}, {blockState(0, 0, 0), "11", 1, blockState(0, 0, 0)},
			{blockState(2, 0, 0), "00", 0, blockState(0, 0, 0)}, {blockState(2, 0, 0), "01", 0, blockState(3, 0, 0)}, {blockState(2, 0, 0), "10", 0, blockState(3, 0, 0)}, {blockState(2, 0, 0), "11", 1, blockState(0, 0, 0)},
			{blockState(3, 0, 0), "00", 0, blockState(0, 0, 0)}, {blockState(3, 0, 0), "01", 0, blockState(4, 0, 1)}, {blockState(3, 0, 0), "10", 0, blockState(4, 0, 1)}, {blockState(3, 0, 0), "11", 1, blockState(0, 0, 0)},
			{blockState(4, 0, 1), "00", 0, blockState(0, 0, 0)}, {blockState(4, 0, 1), "01", 0, blockState(4, 0, 1)}, {blockState(4, 0, 1), "10", 0, blockState(4, 0, 1)}, {blockState(4, 0, 1), "11", 0, blockState(4, 0, 1)},
		},
		"pair 9999": {
			{blockState(9998, 0, 0), "01", 0, blockState(9999, 0, 0)}, {blockState(9999, 0, 0), "10", 0, blockState(10000, 0, 1)}, {blockState(9999, 0, 0), "11", 1, blockState(0, 0, 0)}, {blockState(9999, 0, 0), "00", 0, blockState(0, 0, 0)},
			{blockState(10000, 0, 1), "01", 0, blockState(10000, 0, 1)}, {blockState(10000, 0, 1), "11", 0, blockState(10000, 0, 1)}, {blockState(10000, 0, 1), "00", 0, blockState(0, 0, 0)},
		},
	} {
		checkSteps(t, text, steps)
	}
}

func checkSteps(t *testing.T, text string, steps []step) {
	t.Helper()
	for _, one := range steps {
		checkStep(t, functionBlock(text), one.before, args(one.given), one.value, one.after, impl.ErrNone)
	}
}

func TestStepsFromEachState(t *testing.T) {
	for _, text := range blockTexts {
		one := functionBlock(text)
		checkIsBlock(t, one, true)
		for _, s := range possibleAround(one) {
			for _, given := range allArgs(one) {
				value, after := stepBy(one, s, given)
				checkStep(t, one, s, given, value, after, impl.ErrNone)
				checkPossible(t, one, after, true)
			}
		}
	}
}

func TestPossibleStates(t *testing.T) {
	for text, states := range map[string]struct{ possible, impossible []impl.BlockState }{
		"on 3":      {[]impl.BlockState{blockState(0, 0, 0), blockState(1, 0, 0), blockState(2, 0, 0), blockState(3, 0, 0)}, []impl.BlockState{blockState(-1, 0, 0), blockState(4, 0, 0), blockState(0, 1, 0), blockState(0, -1, 0), blockState(0, 0, 1), blockState(0, 0, -1), blockState(4, 0, 1), blockState(3, 1, 0)}},
		"off 3":     {[]impl.BlockState{blockState(0, 0, 0), blockState(3, 0, 0)}, []impl.BlockState{blockState(-1, 0, 0), blockState(4, 0, 0), blockState(0, 1, 0), blockState(0, -1, 0), blockState(0, 0, 1), blockState(0, 0, -1), blockState(4, 0, 1), blockState(3, 1, 0)}},
		"off 0":     {[]impl.BlockState{blockState(0, 0, 0)}, []impl.BlockState{blockState(-1, 0, 0), blockState(1, 0, 0), blockState(0, 1, 0), blockState(1, 0, 1)}},
		"on 9999":   {[]impl.BlockState{blockState(0, 0, 0), blockState(9999, 0, 0)}, []impl.BlockState{blockState(-1, 0, 0), blockState(10000, 0, 0), blockState(10000, 0, 1)}},
		"rise":      {[]impl.BlockState{blockState(0, 0, 0), blockState(1, 0, 0)}, []impl.BlockState{blockState(-1, 0, 0), blockState(2, 0, 0), blockState(0, 1, 0), blockState(0, -1, 0), blockState(0, 0, 1), blockState(0, 0, -1), blockState(1, 0, 1)}},
		"latch":     {[]impl.BlockState{blockState(0, 0, 0), blockState(1, 0, 0)}, []impl.BlockState{blockState(-1, 0, 0), blockState(2, 0, 0), blockState(0, 1, 0), blockState(0, -1, 0), blockState(0, 0, 1), blockState(0, 0, -1), blockState(1, 0, 1)}},
		"count 0":   {[]impl.BlockState{blockState(0, 0, 0), blockState(0, 1, 0)}, []impl.BlockState{blockState(-1, 0, 0), blockState(1, 0, 0), blockState(1, 1, 0), blockState(0, 2, 0), blockState(0, -1, 0), blockState(0, 0, 1)}},
		"count 3":   {[]impl.BlockState{blockState(0, 0, 0), blockState(0, 1, 0), blockState(3, 0, 0), blockState(3, 1, 0)}, []impl.BlockState{blockState(-1, 0, 0), blockState(4, 0, 0), blockState(-1, 1, 0), blockState(4, 1, 0), blockState(3, 2, 0), blockState(3, -1, 0), blockState(3, 1, 1), blockState(4, 0, 1), blockState(0, 0, -1)}},
		"pair 0":    {[]impl.BlockState{blockState(0, 0, 0), blockState(1, 0, 1)}, []impl.BlockState{blockState(-1, 0, 0), blockState(1, 0, 0), blockState(0, 0, 1), blockState(2, 0, 1), blockState(1, 1, 1), blockState(0, 1, 0)}},
		"pair 3":    {[]impl.BlockState{blockState(0, 0, 0), blockState(3, 0, 0), blockState(4, 0, 1)}, []impl.BlockState{blockState(-1, 0, 0), blockState(4, 0, 0), blockState(5, 0, 0), blockState(3, 0, 1), blockState(5, 0, 1), blockState(-1, 0, 1), blockState(0, 0, 1), blockState(3, 1, 0), blockState(3, -1, 0), blockState(4, 1, 1), blockState(4, -1, 1), blockState(4, 0, 2), blockState(4, 0, -1), blockState(3, 0, -1)}},
		"pair 9999": {[]impl.BlockState{blockState(0, 0, 0), blockState(9999, 0, 0), blockState(10000, 0, 1)}, []impl.BlockState{blockState(10000, 0, 0), blockState(9999, 0, 1), blockState(10001, 0, 1)}},
	} {
		for _, s := range states.possible {
			checkPossible(t, functionBlock(text), s, true)
		}
		for _, s := range states.impossible {
			checkPossible(t, functionBlock(text), s, false)
		}
	}
	for _, text := range blockTexts {
		one := functionBlock(text)
		for _, s := range statesAround(one) {
			checkPossible(t, one, s, isPossibleBy(one, s))
		}
	}
}

// TestReachedStates finds that the states which scans lead to are those that are possible.
func TestReachedStates(t *testing.T) {
	for _, text := range blockTexts {
		one := functionBlock(text)
		if one.Number > 4 {
			continue
		}
		reached := map[impl.BlockState]bool{{}: true}
		for waiting := []impl.BlockState{{}}; len(waiting) > 0; waiting = waiting[1:] {
			for _, given := range allArgs(one) {
				_, after, _ := impl.StepBlock(one, waiting[0], given)
				if !reached[after] {
					reached[after], waiting = true, append(waiting, after)
				}
			}
		}
		for _, s := range statesAround(one) {
			checkPossible(t, one, s, reached[s])
		}
	}
}

func TestNoBlocks(t *testing.T) {
	for _, one := range noBlocks() {
		checkIsBlock(t, one, false)
		for _, s := range []impl.BlockState{{}, blockState(1, 0, 0), blockState(-1, 0, 0), blockState(1, 2, 3), blockState(4, 0, 1)} {
			// Arguments that would be right, too many or too few of them, wrong ones, or nil.
			for _, given := range append(argsOf("", "0", "1", "10", "11", "110"), nil, []int64{-1}, []int64{2, 0}) {
				checkNoScan(t, one, s, given, impl.ErrInvalid)
				checkNoBlockRun(t, one, [][]int64{given}, impl.ErrInvalid)
				checkNoBlockRun(t, one, slices.Repeat([][]int64{given}, impl.MaxList), impl.ErrInvalid)
				checkNoBlockRun(t, one, slices.Repeat([][]int64{given}, impl.MaxList+1), impl.ErrInvalid)
			}
		}
		checkNoBlockRun(t, one, nil, impl.ErrInvalid)
		checkNoBlockRun(t, one, [][]int64{}, impl.ErrInvalid)
	}
	for kind := int64(-20); kind <= 300; kind++ {
		for _, number := range []int64{-1, 0, 1, 9999, 10000} {
			one := impl.Term{Kind: kind, Number: number}
			checkIsBlock(t, one, kind >= impl.TermOn && kind <= impl.TermPair && isTermBy(one))
		}
	}
}

func TestImpossibleStatesAndWrongArguments(t *testing.T) {
	for _, text := range blockTexts {
		one := functionBlock(text)
		wrong := noArgsOf(one)
		for _, s := range statesAround(one) {
			if isPossibleBy(one, s) {
				for _, given := range wrong {
					checkStep(t, one, s, given, 0, impl.BlockState{}, impl.ErrRange)
					checkScansUntil(t, one, s, given, 0, impl.ErrRange)
				}
				continue
			}
			for _, given := range append(allArgs(one), wrong[0], wrong[2], wrong[len(wrong)-1]) {
				checkNoScan(t, one, s, given, impl.ErrRange)
			}
		}
	}
}

func TestRunsOfBlocks(t *testing.T) {
	for _, run := range []struct {
		text   string
		list   string
		values string
		after  impl.BlockState
	}{
		{"on 0", "0 1 1 0 1", "01101", blockState(0, 0, 0)},
		{"on 3", "1 1 1 1 0 1 1 0 1 1 1", "00110000001", blockState(3, 0, 0)},
		{"on 3", "1 1 0 1", "0000", blockState(1, 0, 0)},
		{"off 0", "0 1 0 1 1 0 0", "0101100", blockState(0, 0, 0)},
		{"off 2", "0 1 0 0 0 1 0 1 0 0 0 0 1 0", "01110111110011", blockState(1, 0, 0)},
		{"rise", "0 1 1 1 0 0 1 0 1", "010000101", blockState(1, 0, 0)},
		{"latch", "00 10 00 01 00 11 10 11 00 10 10 00", "011000100111", blockState(1, 0, 0)},
		{"count 0", "00 10 01 11 00", "11111", blockState(0, 0, 0)},
		{"count 1", "00 10 10 00 11 10 00 10", "01110001", blockState(1, 1, 0)},
		{"count 3", "10 10 00 10 00 00 10 10 00 10 01 10 11 10 00 10", "0000001111000000", blockState(1, 1, 0)},
		{"pair 0", "11 10 11 01 00 11 00", "1000010", blockState(0, 0, 0)},
		{"pair 2", "11 10 01 11 01 01 01 11 10 00 11", "10010000001", blockState(0, 0, 0)},
		{"pair 2", "01 10 10", "000", blockState(3, 0, 1)},
		{"pair 2", "01 10 11 10 10", "00100", blockState(2, 0, 0)},
		{"pair 2", "01 10 00 10 10", "00000", blockState(2, 0, 0)},
	} {
		list := argsOf(strings.Fields(run.list)...)
		checkBlockRun(t, functionBlock(run.text), list, args(run.values), run.after, impl.ErrNone)
	}
}

func TestLengthsOfRuns(t *testing.T) {
	for _, text := range blockTexts {
		one := functionBlock(text)
		checkBlockRun(t, one, nil, nil, impl.BlockState{}, impl.ErrNone)
		checkBlockRun(t, one, [][]int64{}, nil, impl.BlockState{}, impl.ErrNone)
		for _, given := range allArgs(one) {
			for _, count := range []int{1, 2, impl.MaxList - 1, impl.MaxList} {
				list := slices.Repeat([][]int64{given}, count)
				values, after := stepAll(t, one, impl.BlockState{}, list)
				checkBlockRun(t, one, list, values, after, impl.ErrNone)
			}
			for _, count := range []int{impl.MaxList + 1, impl.MaxList + 2, 10 * impl.MaxList} {
				checkNoBlockRun(t, one, slices.Repeat([][]int64{given}, count), impl.ErrLimit)
			}
		}
	}
}

// TestWrongElementsOfRuns has lists of which one element is wrong, or all of them.
func TestWrongElementsOfRuns(t *testing.T) {
	for _, text := range blockTexts {
		one := functionBlock(text)
		right := allArgs(one)[1]
		for _, wrong := range noArgsOf(one) {
			for _, count := range []int{1, 2, 5, impl.MaxList} {
				for _, at := range []int{0, count / 2, count - 1} {
					list := slices.Repeat([][]int64{right}, count)
					list[at] = wrong
					checkNoBlockRun(t, one, list, impl.ErrRange)
				}
			}
			checkNoBlockRun(t, one, slices.Repeat([][]int64{wrong}, impl.MaxList), impl.ErrRange)
			checkNoBlockRun(t, one, slices.Repeat([][]int64{wrong}, impl.MaxList+1), impl.ErrLimit)
			list := slices.Repeat([][]int64{right}, impl.MaxList+1)
			list[impl.MaxList] = wrong
			checkNoBlockRun(t, one, list, impl.ErrLimit)
		}
	}
}

// checkBlockRunBy checks a run against the arguments of its scans, and against its steps.
func checkBlockRunBy(t *testing.T, one impl.Term, list [][]int64) {
	t.Helper()
	values, after := stepAll(t, one, impl.BlockState{}, list)
	checkBlockRun(t, one, list, values, after, impl.ErrNone)
	for i, value := range values {
		if want := valueBy(one, list[:i+1]); want != (value == 1) || value < 0 || value > 1 {
			t.Errorf("in the last scan of %v, %v has the value %d", list[:i+1], one, value)
		}
	}
	checkFaulty(t, one, after, one.Kind == impl.TermPair && isFaultyBy(int(one.Number), list), impl.ErrNone)
}

func TestEachShortRun(t *testing.T) {
	for _, text := range blockTexts {
		one := functionBlock(text)
		if one.Number > 4 {
			continue
		}
		most := 6
		if takenValues[one.Kind] == 1 {
			most = 9
		}
		eachList(allArgs(one), most, func(list [][]int64) {
			if len(list) == most {
				checkBlockRunBy(t, one, list)
			}
		})
	}
}

func TestMixedRuns(t *testing.T) {
	random := rand.New(rand.NewSource(15))
	kinds := []string{"on", "off", "rise", "latch", "count", "pair"}
	for range 3000 {
		one := functionBlock(kinds[random.Intn(len(kinds))])
		if haveNumbers[one.Kind] {
			one.Number = int64(random.Intn(1 + random.Intn(40)))
		}
		choices := allArgs(one)
		rare := 1 + random.Intn(30)
		var list [][]int64
		for range random.Intn(impl.MaxList + 1) {
			if len(list) > 0 && random.Intn(rare) > 0 {
				list = append(list, list[len(list)-1])
			} else {
				list = append(list, choices[random.Intn(len(choices))])
			}
		}
		checkBlockRunBy(t, one, list)
	}
}

func TestScansUntilOne(t *testing.T) {
	for _, one := range []struct {
		text  string
		s     impl.BlockState
		given string
		want  int64
	}{
		{"on 0", blockState(0, 0, 0), "1", 1}, {"on 0", blockState(0, 0, 0), "0", 0}, {"on 1", blockState(0, 0, 0), "1", 1}, {"on 1", blockState(1, 0, 0), "1", 1}, {"on 1", blockState(1, 0, 0), "0", 0},
		{"on 4", blockState(0, 0, 0), "1", 4}, {"on 4", blockState(1, 0, 0), "1", 3}, {"on 4", blockState(3, 0, 0), "1", 1}, {"on 4", blockState(4, 0, 0), "1", 1}, {"on 4", blockState(0, 0, 0), "0", 0}, {"on 4", blockState(4, 0, 0), "0", 0},
		{"on 5", blockState(0, 0, 0), "1", 5}, {"on 300", blockState(0, 0, 0), "1", 300}, {"on 9999", blockState(0, 0, 0), "1", 9999}, {"on 9999", blockState(9998, 0, 0), "1", 1}, {"on 9999", blockState(9997, 0, 0), "1", 2}, {"on 9999", blockState(9999, 0, 0), "1", 1}, {"on 9999", blockState(9999, 0, 0), "0", 0},
		{"off 4", blockState(0, 0, 0), "1", 1}, {"off 4", blockState(4, 0, 0), "1", 1}, {"off 4", blockState(0, 0, 0), "0", 0}, {"off 4", blockState(1, 0, 0), "0", 1}, {"off 4", blockState(4, 0, 0), "0", 1}, {"off 0", blockState(0, 0, 0), "0", 0}, {"off 0", blockState(0, 0, 0), "1", 1}, {"off 9999", blockState(9999, 0, 0), "0", 1},
		{"rise", blockState(0, 0, 0), "1", 1}, {"rise", blockState(1, 0, 0), "1", 0}, {"rise", blockState(0, 0, 0), "0", 0}, {"rise", blockState(1, 0, 0), "0", 0},
		{"latch", blockState(0, 0, 0), "00", 0}, {"latch", blockState(0, 0, 0), "01", 0}, {"latch", blockState(0, 0, 0), "10", 1}, {"latch", blockState(0, 0, 0), "11", 0}, {"latch", blockState(1, 0, 0), "00", 1}, {"latch", blockState(1, 0, 0), "01", 0}, {"latch", blockState(1, 0, 0), "10", 1}, {"latch", blockState(1, 0, 0), "11", 0},
		{"count 0", blockState(0, 0, 0), "00", 1}, {"count 0", blockState(0, 1, 0), "11", 1}, {"count 1", blockState(0, 0, 0), "10", 1}, {"count 1", blockState(0, 1, 0), "10", 0}, {"count 1", blockState(0, 0, 0), "11", 0}, {"count 1", blockState(1, 0, 0), "00", 1}, {"count 1", blockState(1, 1, 0), "01", 0},
		{"count 3", blockState(0, 0, 0), "10", 0}, {"count 3", blockState(1, 0, 0), "10", 0}, {"count 3", blockState(2, 0, 0), "10", 1}, {"count 3", blockState(2, 1, 0), "10", 0}, {"count 3", blockState(3, 1, 0), "10", 1}, {"count 3", blockState(3, 1, 0), "00", 1}, {"count 9999", blockState(9998, 0, 0), "10", 1}, {"count 9999", blockState(9997, 0, 0), "10", 0},
		{"pair 0", blockState(0, 0, 0), "11", 1}, {"pair 0", blockState(1, 0, 1), "11", 0}, {"pair 0", blockState(0, 0, 0), "01", 0}, {"pair 3", blockState(3, 0, 0), "11", 1}, {"pair 3", blockState(0, 0, 0), "10", 0}, {"pair 3", blockState(4, 0, 1), "11", 0}, {"pair 3", blockState(4, 0, 1), "00", 0}, {"pair 3", blockState(2, 0, 0), "00", 0}, {"pair 9999", blockState(0, 0, 0), "01", 0}, {"pair 9999", blockState(10000, 0, 1), "11", 0},
	} {
		code := int64(impl.ErrNone)
		if one.want == 0 {
			code = impl.ErrNotFound
		}
		checkScansUntil(t, functionBlock(one.text), one.s, args(one.given), one.want, code)
	}
}

// TestScansUntilOneFromEachState makes more scans than there are possible states: the value of a block
// that is not 1 until then never is.
func TestScansUntilOneFromEachState(t *testing.T) {
	for _, text := range blockTexts {
		one := functionBlock(text)
		for _, s := range possibleAround(one) {
			for _, given := range allArgs(one) {
				want, code := int64(0), int64(impl.ErrNotFound)
				for scan, after := int64(1), s; scan <= 2*one.Number+5; scan++ {
					value := int64(0)
					if value, after = stepBy(one, after, given); value == 1 {
						want, code = scan, impl.ErrNone
						break
					}
				}
				checkScansUntil(t, one, s, given, want, code)
			}
		}
	}
}

func TestFaultyPairs(t *testing.T) {
	for _, text := range blockTexts {
		one := functionBlock(text)
		for _, s := range possibleAround(one) {
			checkFaulty(t, one, s, one.Kind == impl.TermPair && s.C == 1, impl.ErrNone)
		}
	}
	checkFaulty(t, functionBlock("pair 2"), blockState(2, 0, 0), false, impl.ErrNone)
	checkFaulty(t, functionBlock("pair 2"), blockState(3, 0, 1), true, impl.ErrNone)
	checkFaulty(t, functionBlock("pair 2"), blockState(2, 0, 1), false, impl.ErrRange)
	checkFaulty(t, functionBlock("pair 2"), blockState(3, 0, 0), false, impl.ErrRange)
	checkFaulty(t, functionBlock("on 2"), blockState(3, 0, 1), false, impl.ErrRange)
	checkFaulty(t, functionBlock("count 2"), blockState(2, 1, 0), false, impl.ErrNone)
	checkFaulty(t, functionBlock("count 2"), blockState(2, 1, 1), false, impl.ErrRange)
	checkFaulty(t, functionBlock("rise"), blockState(1, 0, 0), false, impl.ErrNone)
	checkFaulty(t, functionBlock("not"), blockState(0, 0, 0), false, impl.ErrInvalid)
	checkFaulty(t, functionBlock("pair 10000"), blockState(10001, 0, 1), false, impl.ErrInvalid)
}

// TestLastingDifferencesAreFound begins with each possible state of a pair.
func TestLastingDifferencesAreFound(t *testing.T) {
	random := rand.New(rand.NewSource(150))
	for _, text := range blockTexts {
		one := functionBlock(text)
		if one.Kind != impl.TermPair {
			continue
		}
		for _, begin := range possibleAround(one) {
			for _, channels := range [][][]int64{argsOf("01"), argsOf("10"), argsOf("01", "10")} {
				var list [][]int64
				for range one.Number + 1 {
					list = append(list, channels[random.Intn(len(channels))])
				}
				values, after := stepAll(t, one, begin, list)
				if slices.Contains(values, 1) {
					t.Errorf("%v has the value 1 with channels that differ, beginning with %v", one, begin)
				}
				checkFaulty(t, one, after, true, impl.ErrNone)
				if begin == (impl.BlockState{}) {
					// One scan less is no fault yet.
					_, before := stepAll(t, one, begin, list[1:])
					checkFaulty(t, one, before, false, impl.ErrNone)
					checkStep(t, one, before, args("11"), 1, impl.BlockState{}, impl.ErrNone)
				}
				checkFaultIsKept(t, one, after)
			}
		}
	}
}

// checkFaultIsKept checks that the fault of a pair is there until both channels are 0.
func checkFaultIsKept(t *testing.T, one impl.Term, s impl.BlockState) {
	t.Helper()
	values, after := stepAll(t, one, s, argsOf("11", "01", "11", "10", "11", "11"))
	checkFaulty(t, one, after, true, impl.ErrNone)
	if slices.Contains(values, 1) {
		t.Errorf("the faulty %v has the value 1", one)
	}
	values, after = stepAll(t, one, after, argsOf("00", "11"))
	checkFaulty(t, one, after, false, impl.ErrNone)
	if !slices.Equal(values, []int64{0, 1}) {
		t.Errorf("%v has the values %v behind its fault", one, values)
	}
}

func TestTextsOfBlocks(t *testing.T) {
	for want, one := range map[string]struct {
		text string
		s    impl.BlockState
	}{
		"on 0 0,0,0": {"on 0", blockState(0, 0, 0)}, "on 3 2,0,0": {"on 3", blockState(2, 0, 0)}, "on 42 10,0,0": {"on 42", blockState(10, 0, 0)}, "on 9999 9999,0,0": {"on 9999", blockState(9999, 0, 0)}, "on 100 100,0,0": {"on 100", blockState(100, 0, 0)},
		"off 0 0,0,0": {"off 0", blockState(0, 0, 0)}, "off 7 7,0,0": {"off 7", blockState(7, 0, 0)}, "off 9999 1234,0,0": {"off 9999", blockState(1234, 0, 0)},
		"rise 0 0,0,0": {"rise", blockState(0, 0, 0)}, "rise 0 1,0,0": {"rise", blockState(1, 0, 0)}, "latch 0 0,0,0": {"latch", blockState(0, 0, 0)}, "latch 0 1,0,0": {"latch", blockState(1, 0, 0)},
		"count 0 0,1,0": {"count 0", blockState(0, 1, 0)}, "count 12 11,1,0": {"count 12", blockState(11, 1, 0)}, "count 9999 9999,0,0": {"count 9999", blockState(9999, 0, 0)},
		"pair 1 2,0,1": {"pair 1", blockState(2, 0, 1)}, "pair 0 0,0,0": {"pair 0", blockState(0, 0, 0)}, "pair 10 10,0,0": {"pair 10", blockState(10, 0, 0)}, "pair 99 100,0,1": {"pair 99", blockState(100, 0, 1)}, "pair 9999 10000,0,1": {"pair 9999", blockState(10000, 0, 1)},
	} {
		checkBlockText(t, functionBlock(one.text), one.s, want, impl.ErrNone)
	}
	for _, text := range blockTexts {
		one := functionBlock(text)
		if !haveNumbers[one.Kind] {
			text += " 0"
		}
		for _, s := range possibleAround(one) {
			checkBlockText(t, one, s, fmt.Sprintf("%s %d,%d,%d", text, s.A, s.B, s.C), impl.ErrNone)
		}
	}
}

func TestArgumentsOfFunctionBlocksAreNotChanged(t *testing.T) {
	for _, text := range blockTexts {
		one := functionBlock(text)
		for _, right := range allArgs(one) {
			// All arguments lie in the same memory, with spare capacity behind them.
			memory := append(slices.Clone(right), 7, 7, 7)
			given := memory[:len(right)]
			list := make([][]int64, 5, 10)
			for i := range list[:cap(list)] {
				list[:cap(list)][i] = given
			}
			for range 2 {
				value, after := stepBy(one, impl.BlockState{}, given)
				checkStep(t, one, impl.BlockState{}, given, value, after, impl.ErrNone)
				impl.ScansUntil(one, impl.BlockState{}, given)
				checkStep(t, one, impl.BlockState{}, memory, 0, impl.BlockState{}, impl.ErrRange)
				values, _, _ := impl.RunBlock(one, list)
				kept := slices.Clone(values)
				spoil(values)
				values, _, _ = impl.RunBlock(one, list)
				if !slices.Equal(values, kept) {
					t.Errorf("the values of %v became %v", one, values)
				}
			}
			if !slices.Equal(memory, append(slices.Clone(right), 7, 7, 7)) {
				t.Errorf("the arguments of %v became %v", one, memory)
			}
			for _, element := range list[:cap(list)] {
				if !slices.Equal(element, right) || &element[0] != &memory[0] {
					t.Errorf("the list of %v became %v", one, list)
				}
			}
		}
	}
}
