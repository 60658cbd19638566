package tests

import (
	"fmt"
	"math"
	"slices"
	"strings"
	"testing"

	"loop.example/g00916/impl"
)

func plain(length int64, rise int64) impl.Segment {
	return impl.Segment{Kind: impl.SegmentPlain, Length: length, Rise: rise, Resist: span(0, 100)}
}

// device returns a segment of another kind than plain.
func device(kind int64, length int64, rise int64) impl.Segment {
	return impl.Segment{Kind: kind, Length: length, Rise: rise, Resist: span(0, 100), Force: span(2000, 3000)}
}

func station(length int64) impl.Segment { return device(impl.SegmentStation, length, 0) }

func circuit(segments ...impl.Segment) impl.Layout { return impl.Layout{Segments: segments} }

// flat returns a level circuit with a number of segments.
func flat(count int) impl.Layout {
	return circuit(append(slices.Repeat([]impl.Segment{plain(1000, 0)}, count-1), station(500))...)
}

// hills is a short circuit with all five kinds, with rises and falls that are no multiples of
// their lengths.
func hills() impl.Layout {
	return circuit(
		device(impl.SegmentLift, 7, 5),
		plain(5, -3),
		device(impl.SegmentLaunch, 1, 1),
		plain(9, -9),
		plain(11, 7),
		device(impl.SegmentBrake, 13, -1),
		station(4),
	)
}

// greatest is the circuit with the most, longest and steepest segments.
func greatest() impl.Layout {
	var list []impl.Segment
	for range impl.MaxSegments / 2 {
		list = append(list, device(impl.SegmentStation, impl.MaxLength, impl.MaxRise))
		list = append(list, device(impl.SegmentStation, impl.MaxLength, -impl.MaxRise))
	}
	return circuit(list...)
}

// validLayouts are layouts of all kinds and at the bounds of what is valid.
func validLayouts() []impl.Layout {
	steep := circuit(plain(1, 1), plain(1, -1), plain(7, 7), plain(7, -7), station(1))
	rising := hills()
	rising.Segments[6].Rise = 4
	rising.Segments[3].Rise = -8
	rising.Segments[5].Rise = -6
	return []impl.Layout{flat(3), flat(4), flat(impl.MaxSegments - 1), flat(impl.MaxSegments), hills(), greatest(), steep, rising}
}

// sample returns a valid segment of a kind that is neither short nor steep.
func sample(kind int64) impl.Segment {
	if kind == impl.SegmentPlain {
		return plain(1000, 10)
	}
	return device(kind, 1000, 10)
}

func checkSegment(t *testing.T, x impl.Segment, valid bool, holds bool) {
	t.Helper()
	if got := impl.IsSegment(x); got != valid {
		t.Errorf("IsSegment(%v) = %v", x, got)
	}
	if got := impl.Holds(x); got != holds {
		t.Errorf("Holds(%v) = %v", x, got)
	}
}

// kinds has what each kind of segments is called, by its number, and whether it holds.
var kinds = []struct {
	name  string
	holds bool
}{{"plain", false}, {"lift", true}, {"launch", false}, {"brake", true}, {"station", true}}

func TestConstantsOfLayouts(t *testing.T) {
	for i, kind := range []int64{impl.SegmentPlain, impl.SegmentLift, impl.SegmentLaunch, impl.SegmentBrake, impl.SegmentStation} {
		if kind != int64(i) {
			t.Errorf("kind %d is %d", i, kind)
		}
	}
	if impl.MaxSegments != 24 || impl.MaxLength != 200000 || impl.MaxRise != 100000 || impl.MaxForce != 20000 {
		t.Errorf("limits: %d, %d, %d, %d", impl.MaxSegments, impl.MaxLength, impl.MaxRise, impl.MaxForce)
	}
}

func TestKindsOfSegments(t *testing.T) {
	for kind, c := range kinds {
		checkSegment(t, sample(int64(kind)), true, c.holds)
	}
	for _, kind := range []int64{-1, 5, 6, 255, 256, math.MaxInt64, math.MinInt64} {
		x := sample(impl.SegmentStation)
		x.Kind = kind
		checkSegment(t, x, false, false)
		x.Force = span(0, 0)
		checkSegment(t, x, false, false)
	}
	checkSegment(t, impl.Segment{}, false, false)
}

func TestLengthsAndRisesOfSegments(t *testing.T) {
	for _, c := range []struct {
		length, rise int64
		valid        bool
	}{
		{1, 0, true}, {1, 1, true}, {1, -1, true},
		{0, 0, false}, {-1, 0, false}, {-1, 1, false}, {-1, -1, false}, {0, 1, false}, {0, -1, false},
		{1, 2, false}, {1, -2, false},
		{50, 50, true}, {50, -50, true}, {50, 51, false}, {50, -51, false}, {50, 49, true}, {50, -49, true},
		{impl.MaxLength, 0, true}, {impl.MaxLength + 1, 0, false}, {impl.MaxLength - 1, 0, true},
		{impl.MaxLength, impl.MaxRise, true}, {impl.MaxLength, -impl.MaxRise, true},
		{impl.MaxLength, impl.MaxRise + 1, false}, {impl.MaxLength, -impl.MaxRise - 1, false},
		{impl.MaxLength, impl.MaxLength, false}, {impl.MaxLength, -impl.MaxLength, false},
		{impl.MaxRise, impl.MaxRise, true}, {impl.MaxRise, -impl.MaxRise, true},
		{impl.MaxRise - 1, impl.MaxRise, false}, {impl.MaxRise - 1, -impl.MaxRise, false},
		{impl.MaxRise + 1, impl.MaxRise + 1, false}, {impl.MaxRise + 1, -impl.MaxRise - 1, false},
		{math.MaxInt64, 0, false}, {math.MinInt64, 0, false},
		{1000, math.MaxInt64, false}, {1000, math.MinInt64, false},
		{math.MaxInt64, math.MaxInt64, false}, {math.MinInt64, math.MinInt64, false},
	} {
		for kind := range kinds {
			x := sample(int64(kind))
			x.Length, x.Rise = c.length, c.rise
			checkSegment(t, x, c.valid, c.valid && kinds[kind].holds)
		}
	}
}

func TestResistancesOfSegments(t *testing.T) {
	const most = impl.MaxForce
	for kind := range kinds {
		x := sample(int64(kind))
		for _, x.Resist = range []impl.Interval{{}, span(0, 1), span(1, 1), span(0, most), span(most, most), span(most-1, most)} {
			checkSegment(t, x, true, kinds[kind].holds)
		}
		wrong := []impl.Interval{span(-1, 0), span(-1, -1), span(0, most+1), span(most, most+1), span(most+1, most+1), span(2, 1), span(1, 0), span(most, most-1), whole}
		for _, x.Resist = range append(wrong, notValid...) {
			checkSegment(t, x, false, false)
		}
	}
}

func TestForcesOfSegments(t *testing.T) {
	const most = impl.MaxForce
	for kind := range kinds[1:] {
		x := sample(int64(kind + 1))
		for _, x.Force = range []impl.Interval{span(1, 1), span(1, 2), span(1, most), span(most, most), span(most-1, most)} {
			checkSegment(t, x, true, kinds[kind+1].holds)
		}
		wrong := []impl.Interval{{}, span(0, 1), span(0, most), span(-1, 1), span(-2, -1), span(1, most+1), span(most, most+1), span(most+1, most+1), span(2, 1), span(most, 1), whole}
		for _, x.Force = range append(wrong, notValid...) {
			checkSegment(t, x, false, false)
		}
	}
	x := sample(impl.SegmentPlain)
	for _, x.Force = range append([]impl.Interval{span(0, 1), span(1, 1), span(-1, 0), span(-1, 1), span(1, most), span(-1, -1)}, notValid...) {
		checkSegment(t, x, false, false)
	}
}

// namedText writes the text of a layout, also of one that is not valid.
func namedText(l impl.Layout) string {
	var s strings.Builder
	for _, x := range l.Segments {
		name := "loop"
		if x.Kind >= 0 && x.Kind < int64(len(kinds)) {
			name = kinds[x.Kind].name
		}
		fmt.Fprintf(&s, "%s %d %d %d %d %d %d\n", name, x.Length, x.Rise, x.Resist.Low, x.Resist.High, x.Force.Low, x.Force.High)
	}
	return s.String()
}

func checkSegmentAt(t *testing.T, l impl.Layout, position int64, segment int64, distance int64, code int64) {
	t.Helper()
	if k, d, c := impl.SegmentAt(l, position); k != segment || d != distance || c != code {
		t.Errorf("SegmentAt(%v, %d) = %d, %d, %d; want %d, %d, %d", l, position, k, d, c, segment, distance, code)
	}
}

func checkHeightAt(t *testing.T, l impl.Layout, position int64, height int64, code int64) {
	t.Helper()
	if h, c := impl.HeightAt(l, position); h != height || c != code {
		t.Errorf("HeightAt(%v, %d) = %d, %d; want %d, %d", l, position, h, c, height, code)
	}
}

// checkNotRead checks that a text is that of no layout.
func checkNotRead(t *testing.T, s string) {
	t.Helper()
	if l, ok := impl.ReadLayout(s); len(l.Segments) != 0 || ok {
		t.Errorf("ReadLayout(%q) = %v, %v", s, l, ok)
	}
}

// checkInvalid checks what all functions return for a layout that is not valid.
func checkInvalid(t *testing.T, name string, l impl.Layout) {
	t.Helper()
	if impl.IsLayout(l) {
		t.Errorf("%s: IsLayout(%v)", name, l)
	}
	if n, code := impl.TrackLength(l); n != 0 || code != impl.ErrInvalid {
		t.Errorf("%s: TrackLength = %d, %d", name, n, code)
	}
	if list, code := impl.SegmentStarts(l); len(list) != 0 || code != impl.ErrInvalid {
		t.Errorf("%s: SegmentStarts = %v, %d", name, list, code)
	}
	if s := impl.LayoutText(l); s != "" {
		t.Errorf("%s: LayoutText = %q", name, s)
	}
	// The positions outside would give ErrRange, which comes after ErrInvalid.
	for _, position := range []int64{0, 1, -1, 100000000, math.MaxInt64, math.MinInt64} {
		checkSegmentAt(t, l, position, 0, 0, impl.ErrInvalid)
		checkHeightAt(t, l, position, 0, impl.ErrInvalid)
	}
	checkNotRead(t, namedText(l))
}

func TestValidLayouts(t *testing.T) {
	for _, l := range validLayouts() {
		if !impl.IsLayout(l) {
			t.Errorf("IsLayout(%v) = false", l)
		}
	}
}

func TestNumbersOfSegments(t *testing.T) {
	checkInvalid(t, "no segments", impl.Layout{})
	checkInvalid(t, "empty list", impl.Layout{Segments: []impl.Segment{}})
	for _, count := range []int{1, 2, impl.MaxSegments + 1, impl.MaxSegments + 2, 2 * impl.MaxSegments, 300} {
		checkInvalid(t, fmt.Sprint(count, " segments"), flat(count))
	}
	for count := 3; count <= impl.MaxSegments; count++ {
		if !impl.IsLayout(flat(count)) {
			t.Errorf("IsLayout of %d segments", count)
		}
	}
}

func TestLastSegmentIsAStation(t *testing.T) {
	for kind := range kinds {
		x := sample(int64(kind))
		x.Rise = 0
		if l := circuit(station(5), station(5), x); kind == impl.SegmentStation {
			if !impl.IsLayout(l) {
				t.Errorf("IsLayout(%v) = false", l)
			}
		} else {
			checkInvalid(t, "last is a "+kinds[kind].name, l)
		}
	}
}

func TestRisesAddUpToZero(t *testing.T) {
	for _, rise := range []int64{1, -1, 100, -100, impl.MaxRise, -impl.MaxRise} {
		high := plain(impl.MaxLength, rise)
		checkInvalid(t, "only one slope", circuit(high, plain(5, 0), station(5)))
		checkInvalid(t, "two equal slopes", circuit(high, high, station(5)))
		back := plain(impl.MaxLength, -rise)
		for _, l := range []impl.Layout{circuit(high, back, station(5)), circuit(back, high, station(5)), circuit(high, high, back, back, station(5))} {
			if !impl.IsLayout(l) {
				t.Errorf("IsLayout(%v) = false", l)
			}
		}
	}
	up := hills()
	for i := range up.Segments {
		changed := circuit(slices.Clone(up.Segments)...)
		changed.Segments[i].Length++
		changed.Segments[i].Rise++
		checkInvalid(t, "one millimetre too high", changed)
		changed.Segments[i].Rise -= 2
		checkInvalid(t, "one millimetre too low", changed)
	}
	changed := hills()
	changed.Segments[6].Rise = 1
	checkInvalid(t, "the station too high", changed)
}

func TestInvalidSegmentsInLayouts(t *testing.T) {
	wrong := map[string]func(*impl.Segment){
		"kind -1":           func(x *impl.Segment) { x.Kind = -1 },
		"kind 5":            func(x *impl.Segment) { x.Kind = 5 },
		"length 0":          func(x *impl.Segment) { x.Length, x.Rise = 0, 0 },
		"length too great":  func(x *impl.Segment) { x.Length = impl.MaxLength + 1 },
		"resist not valid":  func(x *impl.Segment) { x.Resist = span(2, 1) },
		"resist too low":    func(x *impl.Segment) { x.Resist.Low = -1 },
		"resist too great":  func(x *impl.Segment) { x.Resist.High = impl.MaxForce + 1 },
		"force not valid":   func(x *impl.Segment) { x.Force = span(2, 1) },
		"force too low":     func(x *impl.Segment) { x.Force = span(-1, 1) },
		"force too great":   func(x *impl.Segment) { x.Force = span(1, impl.MaxForce+1) },
		"force of plain":    func(x *impl.Segment) { x.Kind, x.Force = impl.SegmentPlain, span(1, 1) },
		"lift, no force":    func(x *impl.Segment) { x.Kind, x.Force = impl.SegmentLift, span(0, 0) },
		"launch, no force":  func(x *impl.Segment) { x.Kind, x.Force = impl.SegmentLaunch, span(0, 0) },
		"brake, no force":   func(x *impl.Segment) { x.Kind, x.Force = impl.SegmentBrake, span(0, 0) },
		"station, no force": func(x *impl.Segment) { x.Kind, x.Force = impl.SegmentStation, span(0, 0) },
	}
	for name, change := range wrong {
		for i := range hills().Segments {
			l := hills()
			change(&l.Segments[i])
			checkInvalid(t, name, l)
		}
	}
	checkInvalid(t, "slopes too steep", circuit(plain(5, 6), plain(6, -6), station(5)))
	checkInvalid(t, "falls too steep", circuit(plain(6, 6), plain(5, -6), station(5)))
	checkInvalid(t, "rises too great", circuit(plain(impl.MaxLength, impl.MaxRise+1), plain(impl.MaxLength, -impl.MaxRise-1), station(5)))
	checkInvalid(t, "rises that wrap around", circuit(plain(5, math.MinInt64), plain(5, math.MinInt64), station(5)))
}

func TestStartsAndLengthOfTheTrack(t *testing.T) {
	for _, c := range []struct {
		l      impl.Layout
		starts []int64
		length int64
	}{
		{flat(3), []int64{0, 1000, 2000}, 2500},
		{circuit(plain(1, 0), plain(2, 0), station(3)), []int64{0, 1, 3}, 6},
		{hills(), []int64{0, 7, 12, 13, 22, 33, 46}, 50},
	} {
		if n, code := impl.TrackLength(c.l); n != c.length || code != impl.ErrNone {
			t.Errorf("TrackLength(%v) = %d, %d; want %d", c.l, n, code, c.length)
		}
		if list, code := impl.SegmentStarts(c.l); !slices.Equal(list, c.starts) || code != impl.ErrNone {
			t.Errorf("SegmentStarts(%v) = %v, %d; want %v", c.l, list, code, c.starts)
		}
	}
	if n, code := impl.TrackLength(greatest()); n != impl.MaxSegments*impl.MaxLength || code != impl.ErrNone {
		t.Errorf("the greatest track is %d long, code %d", n, code)
	}
	list, _ := impl.SegmentStarts(greatest())
	if len(list) != impl.MaxSegments || list[impl.MaxSegments-1] != (impl.MaxSegments-1)*impl.MaxLength {
		t.Errorf("starts of the greatest track: %v", list)
	}
}

func TestPositionsAndTheirSegments(t *testing.T) {
	l := hills()
	for _, c := range []struct{ position, segment, distance int64 }{
		{0, 0, 0}, {6, 0, 6}, {7, 1, 0}, {8, 1, 1}, {11, 1, 4}, {12, 2, 0}, {13, 3, 0}, {21, 3, 8},
		{22, 4, 0}, {32, 4, 10}, {33, 5, 0}, {45, 5, 12}, {46, 6, 0}, {49, 6, 3},
	} {
		checkSegmentAt(t, l, c.position, c.segment, c.distance, impl.ErrNone)
	}
	end := int64(impl.MaxSegments * impl.MaxLength)
	checkSegmentAt(t, greatest(), end-1, impl.MaxSegments-1, impl.MaxLength-1, impl.ErrNone)
	checkSegmentAt(t, greatest(), end-impl.MaxLength, impl.MaxSegments-1, 0, impl.ErrNone)
	checkSegmentAt(t, greatest(), end-impl.MaxLength-1, impl.MaxSegments-2, impl.MaxLength-1, impl.ErrNone)
}

func TestPositionsOutsideOfTheTrack(t *testing.T) {
	for _, l := range validLayouts() {
		length, _ := impl.TrackLength(l)
		for _, position := range []int64{length, length + 1, 2 * length, -1, -2, -length, math.MaxInt64, math.MaxInt64 - 1, math.MinInt64, math.MinInt64 + 1} {
			checkSegmentAt(t, l, position, 0, 0, impl.ErrRange)
			checkHeightAt(t, l, position, 0, impl.ErrRange)
		}
	}
}

func TestHeights(t *testing.T) {
	l := hills()
	want := []int64{
		0, 0, 1, 2, 2, 3, 4, // up 5 on 7
		5, 4, 3, 3, 2, // down 3 on 5
		2,                              // up 1 on 1
		3, 2, 1, 0, -1, -2, -3, -4, -5, // down 9 on 9
		-6, -6, -5, -5, -4, -3, -3, -2, -1, -1, 0, // up 7 on 11
		1, 0, 0, 0, 0, 0, 0, 0, 0, 0, 0, 0, 0, // down 1 on 13
		0, 0, 0, 0,
	}
	if len(want) != 50 {
		t.Fatal("as many heights as positions")
	}
	for position, height := range want {
		checkHeightAt(t, l, int64(position), height, impl.ErrNone)
	}
}

func TestHeightsOfGreatSegments(t *testing.T) {
	const length, rise = impl.MaxLength, impl.MaxRise
	for _, c := range []struct{ position, height int64 }{
		{0, 0}, {1, 0}, {2, 1}, {length - 1, rise - 1}, {length, rise}, {length + 1, rise - 1}, {length + 2, rise - 1}, {length + 3, rise - 2},
		{2*length - 1, 0}, {2 * length, 0}, {2*length + 2, 1}, {24*length - 1, 0}, {24*length - 2, 1}, {23 * length, rise},
	} {
		checkHeightAt(t, greatest(), c.position, c.height, impl.ErrNone)
	}
	deep := circuit(plain(length, -rise), plain(3, 0), plain(length, -rise), plain(length, rise), plain(length, rise), station(1))
	for _, c := range []struct{ position, height int64 }{
		{1, -1}, {2, -1}, {3, -2}, {length - 1, -rise}, {length, -rise}, {length + 2, -rise},
		{2*length + 2, -2 * rise}, {2*length + 3, -2 * rise}, {2*length + 4, -2 * rise}, {2*length + 5, 1 - 2*rise}, {4*length + 3, 0},
	} {
		checkHeightAt(t, deep, c.position, c.height, impl.ErrNone)
	}
}

// checkPlaces checks the segment and the height of a position by their definitions.
func checkPlaces(t *testing.T, l impl.Layout, position int64, index int, start int64, low int64) {
	t.Helper()
	x := l.Segments[index]
	distance := position - start
	checkSegmentAt(t, l, position, int64(index), distance, impl.ErrNone)
	height, code := impl.HeightAt(l, position)
	rest := x.Rise*distance - (height-low)*x.Length
	if code != impl.ErrNone || rest < 0 || rest >= x.Length {
		t.Errorf("HeightAt(%v, %d) = %d, %d", l, position, height, code)
	}
}

func TestHeightsFollowTheRises(t *testing.T) {
	for _, l := range validLayouts() {
		starts, code := impl.SegmentStarts(l)
		if len(starts) != len(l.Segments) || code != impl.ErrNone {
			t.Fatalf("SegmentStarts(%v) = %v, %d", l, starts, code)
		}
		start, low := int64(0), int64(0)
		for i, x := range l.Segments {
			if starts[i] != start {
				t.Errorf("SegmentStarts(%v)[%d] = %d; want %d", l, i, starts[i], start)
			}
			checkHeightAt(t, l, start, low, impl.ErrNone)
			step := max(1, x.Length/50)
			for position := start; position < start+x.Length; position += step {
				checkPlaces(t, l, position, i, start, low)
			}
			checkPlaces(t, l, start+x.Length-1, i, start, low)
			start, low = start+x.Length, low+x.Rise
		}
		if length, _ := impl.TrackLength(l); length != start || low != 0 {
			t.Errorf("the track of %v ends at %d, %d high", l, length, low)
		}
	}
}

const hillsText = `lift 7 5 0 100 2000 3000
plain 5 -3 0 100 0 0
launch 1 1 0 100 2000 3000
plain 9 -9 0 100 0 0
plain 11 7 0 100 0 0
brake 13 -1 0 100 2000 3000
station 4 0 0 100 2000 3000
`

func checkTextOfLayout(t *testing.T, l impl.Layout, s string) {
	t.Helper()
	if got := impl.LayoutText(l); got != s {
		t.Errorf("LayoutText(%v) = %q; want %q", l, got, s)
	}
	if got, ok := impl.ReadLayout(s); !ok || !slices.Equal(got.Segments, l.Segments) {
		t.Errorf("ReadLayout(%q) = %v, %v; want %v", s, got, ok, l)
	}
}

func TestTextsOfLayouts(t *testing.T) {
	checkTextOfLayout(t, hills(), hillsText)
	checkTextOfLayout(t, circuit(append(hills().Segments, hills().Segments...)...), hillsText+hillsText)
	checkTextOfLayout(t, flat(3), "plain 1000 0 0 100 0 0\nplain 1000 0 0 100 0 0\nstation 500 0 0 100 2000 3000\n")
	bounds := circuit(
		impl.Segment{Kind: impl.SegmentLaunch, Length: 200000, Rise: -100000, Resist: span(20000, 20000), Force: span(1, 20000)},
		impl.Segment{Kind: impl.SegmentBrake, Length: 200000, Rise: 100000, Resist: span(0, 0), Force: span(20000, 20000)},
		impl.Segment{Kind: impl.SegmentStation, Length: 1, Rise: 0, Resist: span(0, 20000), Force: span(1, 1)},
	)
	checkTextOfLayout(t, bounds, "launch 200000 -100000 20000 20000 1 20000\nbrake 200000 100000 0 0 20000 20000\nstation 1 0 0 20000 1 1\n")
}

func TestLayoutsAreRecovered(t *testing.T) {
	seen := map[string]bool{}
	for _, l := range validLayouts() {
		checkTextOfLayout(t, l, namedText(l))
		seen[impl.LayoutText(l)] = true
	}
	for i := range hills().Segments {
		for n := int64(0); n < 4; n++ {
			l := hills()
			x := &l.Segments[i]
			x.Length += 9 + n
			x.Resist = span(n, 10*n)
			if x.Kind != impl.SegmentPlain {
				x.Force = span(n+1, 10*n+1)
			}
			checkTextOfLayout(t, l, namedText(l))
			seen[impl.LayoutText(l)] = true
		}
	}
	if want := len(validLayouts()) + 4*len(hills().Segments); len(seen) != want {
		t.Errorf("%d texts of %d layouts", len(seen), want)
	}
}

// changedTexts are a line of hillsText and lines that cannot stand for it.
var changedTexts = []struct {
	line string
	bad  []string
}{
	{"lift 7 5 0 100 2000 3000\n", []string{
		"lift 07 5 0 100 2000 3000\n", "lift 7 05 0 100 2000 3000\n", "lift 7 5 00 100 2000 3000\n", "lift 7 5 0 0100 2000 3000\n",
		"lift 7 5 0 100 02000 3000\n", "lift 7 5 0 100 2000 03000\n", "lift 7 5 -0 100 2000 3000\n",
		"lift +7 5 0 100 2000 3000\n", "lift 7 +5 0 100 2000 3000\n", "lift 7 5 +0 100 2000 3000\n", "lift 7 5 0 100 2000 +3000\n",
		" lift 7 5 0 100 2000 3000\n", "lift  7 5 0 100 2000 3000\n", "lift 7  5 0 100 2000 3000\n", "lift 7 5 0 100 2000  3000\n",
		"lift 7 5 0 100 2000 3000 \n", "lift 7 5 0 100 2000 3000\r\n", "lift\t7 5 0 100 2000 3000\n", "lift 7,5 0 100 2000 3000\n",
		"lift 7 5 0 100 2000\n", "lift 7 5 0 100 2000 \n", "lift 7 5 0 100 2000 3000 0\n", "lift\n", " \n", "      \n", "lift      \n", "lift 7 5 0 100 2000 3000",
		"lift 7 5 0 100 2000 3000 ", "7 5 0 100 2000 3000\n", " 7 5 0 100 2000 3000\n", "\n", "\nlift 7 5 0 100 2000 3000\n", "lift 7 5 0 100 2000 3000\n\n",
		"lift 7 5 0\n100 2000 3000\n", "lift 7 5 0 100\n2000 3000\n", "lift 7 5 0 100 2000 3000\vplain\n",
		"Lift 7 5 0 100 2000 3000\n", "LIFT 7 5 0 100 2000 3000\n", "lif 7 5 0 100 2000 3000\n", "lifts 7 5 0 100 2000 3000\n", "loop 7 5 0 100 2000 3000\n",
		"1 7 5 0 100 2000 3000\n", "none 7 5 0 100 2000 3000\n", "plain 7 5 0 100 2000 3000\n", "l\u0131ft 7 5 0 100 2000 3000\n", "lift\x00 7 5 0 100 2000 3000\n",
		"lift 7x 5 0 100 2000 3000\n", "lift x 5 0 100 2000 3000\n", "lift 7 5 0 1e2 2000 3000\n", "lift 7 5 0 1_00 2000 3000\n", "lift 7 5 0 0x64 2000 3000\n",
		"lift 7.0 5 0 100 2000 3000\n", "lift 7 5 0 100 2.000 3000\n", "lift \u0667 5 0 100 2000 3000\n", "lift 7 5 - 100 2000 3000\n", "lift 7 5 0 100 2000 --3000\n",
		"lift 18446744073709551623 5 0 100 2000 3000\n", "lift 7 18446744073709551621 0 100 2000 3000\n", "lift 7 -18446744073709551611 0 100 2000 3000\n",
		"lift 4294967303 5 0 100 2000 3000\n", "lift 263 261 0 100 2000 3000\n", "lift 99999999999999999999999999 5 0 100 2000 3000\n",
		"lift 7 8 0 100 2000 3000\n", "lift 7 4 0 100 2000 3000\n", "lift -7 5 0 100 2000 3000\n", "lift 0 5 0 100 2000 3000\n", "lift 200001 5 0 100 2000 3000\n",
		"lift 7 5 -1 100 2000 3000\n", "lift 7 5 101 100 2000 3000\n", "lift 7 5 0 20001 2000 3000\n", "lift 7 5 0 100 0 3000\n", "lift 7 5 0 100 0 0\n",
		"lift 7 5 0 100 3001 3000\n", "lift 7 5 0 100 2000 20001\n",
	}},
	{"plain 5 -3 0 100 0 0\n", []string{
		"plain 5 -03 0 100 0 0\n", "plain 5 --3 0 100 0 0\n", "plain 5 - 3 0 100 0 0\n", "plain 5 \u22123 0 100 0 0\n", "plain 5 3 0 100 0 0\n", "plain 5 3- 0 100 0 0\n",
		"plain 5 -3 0 100 -0 0\n", "plain 5 -3 0 100 0 -0\n", "plain 5 -3 0 100 0 00\n", "plain 5 -3 0 100\n", "plain 5 -3 0 100 0\n", "plain 5 -3 0 100 0 1\n", "plain 5 -3 0 100 1 1\n",
	}},
	{"plain 9 -9 0 100 0 0\n", []string{"plain 9 -10 0 100 0 0\n", "plain 8 -9 0 100 0 0\n"}},
	{"station 4 0 0 100 2000 3000\n", []string{
		"station 4 -0 0 100 2000 3000\n", "station 4 +0 0 100 2000 3000\n", "station 4 0 0 100 2000 3000", "station 4 0 0 100 2000 3000\n\n", "station 4 0 0 100 2000 3000\n ",
		"station 4 0 0 100 2000 3000\n\x00", "station 4 0 0 100 2000 3000\nstation", "station 4 0 0 100 2000 3000\nstation 4 0 0 100 2000 3000", "station 4 0 0 100 2000 3000\r\n",
		"brake 4 0 0 100 2000 3000\n", "lift 4 0 0 100 2000 3000\n", "plain 4 0 0 100 0 0\n", "", "\n",
	}},
}

func TestTextsOfNoLayout(t *testing.T) {
	for _, c := range changedTexts {
		if strings.Count(hillsText, c.line) != 1 {
			t.Fatalf("no single line %q", c.line)
		}
		for _, bad := range c.bad {
			checkNotRead(t, strings.Replace(hillsText, c.line, bad, 1))
		}
	}
	for _, s := range []string{
		"", "\n", "\n\n\n", " ", "plain", "plain station station", "lift 7 5 0 100 2000 3000", "lift 7 5 0 100 2000 3000\n",
		"x" + hillsText, hillsText + "x", "\ufeff" + hillsText, hillsText + "# end\n", strings.ReplaceAll(hillsText, "\n", "\r\n"), strings.ReplaceAll(hillsText, "\n", " "),
		strings.ReplaceAll(hillsText, "\n", ""), strings.ReplaceAll(hillsText, " ", ""), strings.ToUpper(hillsText), strings.Repeat("\n", 100000), strings.Repeat(" ", 100000),
		strings.Repeat(hillsText, 4), strings.Repeat("plain 5 0 0 100 0 0\n", 5000) + "station 4 0 0 100 2000 3000\n",
		hillsText + strings.Repeat("\n", impl.MaxSegments),
	} {
		checkNotRead(t, s)
	}
	for end := range len(hillsText) {
		checkNotRead(t, hillsText[:end])
	}
}

func TestFullTextsWithSomethingBehind(t *testing.T) {
	full := namedText(flat(impl.MaxSegments))
	checkTextOfLayout(t, flat(impl.MaxSegments), full)
	for _, behind := range []string{"\n", "x", " ", "\n\n", "x\n", "plain 1 0 0 100 0 0", "station 1 0 0 100 1 1\n"} {
		checkNotRead(t, full+behind)
	}
}

func TestLayoutsAreNotChanged(t *testing.T) {
	spare := append(hills().Segments, plain(77, 7), plain(78, 8))
	kept := slices.Clone(spare)
	l := circuit(spare[:7]...)
	starts, _ := impl.SegmentStarts(l)
	again, _ := impl.SegmentStarts(l)
	starts[1] = -5
	read, _ := impl.ReadLayout(impl.LayoutText(l))
	read.Segments[1].Length = -5
	impl.IsLayout(l)
	impl.TrackLength(l)
	impl.SegmentAt(l, 20)
	impl.HeightAt(l, 20)
	if !slices.Equal(spare, kept) || again[1] != 7 {
		t.Errorf("the layout became %v, the starts %v", spare, again)
	}
	checkTextOfLayout(t, l, hillsText)
}
