package tests

import (
	"math"
	"math/big"
	"slices"
	"testing"

	"loop.example/g00190/impl"
)

const boxFar = 33554432

var boxEdges = []int{
	math.MinInt, math.MinInt + 1, -boxFar - impl.Far - 1, -boxFar - impl.Far, -boxFar - 2, -boxFar - 1, -boxFar, -boxFar + 1,
	-impl.Far, -257, -256, -255, -1, 0, 1, 255, 256, 257, impl.Far,
	boxFar - 1, boxFar, boxFar + 1, boxFar + 2, boxFar + impl.Far, boxFar + impl.Far + 1, math.MaxInt - 1, math.MaxInt,
}

// Each empty in a way of its own, most of them with numbers that are not 0.
var emptyBoxes = []impl.Box{
	{}, {X0: 7, Y0: 7, X1: 7, Y1: 7}, {X0: 3, Y0: -9, X1: 3, Y1: 9}, {X0: -9, Y0: 3, X1: 9, Y1: 3},
	{X0: 9, Y0: -9, X1: -9, Y1: 9}, {X0: -9, Y0: 9, X1: 9, Y1: -9}, {X0: 9, Y0: 9, X1: -9, Y1: -9},
	{X0: math.MaxInt, Y0: math.MaxInt, X1: math.MinInt, Y1: math.MinInt},
	{X0: math.MinInt, Y0: math.MaxInt, X1: math.MaxInt, Y1: math.MinInt},
	{X0: math.MaxInt, Y0: math.MinInt, X1: math.MinInt, Y1: math.MaxInt},
	{X0: math.MinInt, Y0: 4, X1: math.MaxInt, Y1: 4}, {X0: 4, Y0: math.MinInt, X1: 4, Y1: math.MaxInt},
}

var wholeBox = impl.Box{X0: math.MinInt, Y0: math.MinInt, X1: math.MaxInt, Y1: math.MaxInt}

func checkEmpty(t *testing.T, b impl.Box, want bool) {
	t.Helper()
	if got := impl.Empty(b); got != want {
		t.Errorf("Empty(%v) = %v, want %v", b, got, want)
	}
}

func checkJoinBox(t *testing.T, a impl.Box, b impl.Box, want impl.Box) {
	t.Helper()
	if got := impl.JoinBox(a, b); got != want {
		t.Errorf("JoinBox(%v, %v) = %v, want %v", a, b, got, want)
	}
	if got := impl.JoinBox(b, a); got != want {
		t.Errorf("JoinBox(%v, %v) = %v, want %v", b, a, got, want)
	}
}

func checkMeetBox(t *testing.T, a impl.Box, b impl.Box, want impl.Box) {
	t.Helper()
	if got := impl.MeetBox(a, b); got != want {
		t.Errorf("MeetBox(%v, %v) = %v, want %v", a, b, got, want)
	}
	if got := impl.MeetBox(b, a); got != want {
		t.Errorf("MeetBox(%v, %v) = %v, want %v", b, a, got, want)
	}
}

func checkGrowBox(t *testing.T, b impl.Box, n int, want impl.Box) {
	t.Helper()
	if got := impl.GrowBox(b, n); got != want {
		t.Errorf("GrowBox(%v, %d) = %v, want %v", b, n, got, want)
	}
}

func checkInBox(t *testing.T, b impl.Box, p impl.Point, want bool) {
	t.Helper()
	if got := impl.InBox(b, p); got != want {
		t.Errorf("InBox(%v, %v) = %v, want %v", b, p, got, want)
	}
}

func checkBoxOf(t *testing.T, list []impl.Point, want impl.Box) {
	t.Helper()
	before := slices.Clone(list)
	if got := impl.BoxOf(list); got != want {
		t.Errorf("BoxOf(%v) = %v, want %v", list, got, want)
	}
	if !slices.Equal(before, list) {
		t.Errorf("BoxOf(%v) wrote into its list: %v", before, list)
	}
}

func checkSquares(t *testing.T, b impl.Box, want impl.Box) {
	t.Helper()
	if got := impl.Squares(b); got != want {
		t.Errorf("Squares(%v) = %v, want %v", b, got, want)
	}
}

// The sum by numbers without a limit, taken into -4 Far .. 4 Far.
func sumWithinBoxFar(a int, b int) int {
	sum := new(big.Int).Add(big.NewInt(int64(a)), big.NewInt(int64(b)))
	if sum.Cmp(big.NewInt(boxFar)) > 0 {
		return boxFar
	}
	if sum.Cmp(big.NewInt(-boxFar)) < 0 {
		return -boxFar
	}
	return int(sum.Int64())
}

// Every box, empty or not, whose numbers are in low .. high.
func boxesWithin(low int, high int) []impl.Box {
	boxes := []impl.Box{}
	for x0 := low; x0 <= high; x0++ {
		for y0 := low; y0 <= high; y0++ {
			for x1 := low; x1 <= high; x1++ {
				for y1 := low; y1 <= high; y1++ {
					boxes = append(boxes, impl.Box{X0: x0, Y0: y0, X1: x1, Y1: y1})
				}
			}
		}
	}
	return boxes
}

func pointsWithin(low int, high int) []impl.Point {
	points := []impl.Point{}
	for x := low; x <= high; x++ {
		for y := low; y <= high; y++ {
			points = append(points, impl.Point{X: x, Y: y})
		}
	}
	return points
}

// By the words of the document, point by point: from X0, Y0 up to, but without X1, Y1.
func hasPoint(b impl.Box, p impl.Point) bool {
	if p.X < b.X0 || p.Y < b.Y0 {
		return false
	}
	return p.X < b.X1 && p.Y < b.Y1
}

// The least box around the points that are picked, found by trying every side.
func leastAround(points []impl.Point, picked func(impl.Point) bool) impl.Box {
	least := impl.Box{}
	found := false
	for _, p := range points {
		if !picked(p) {
			continue
		}
		if !found {
			least, found = impl.Box{X0: p.X, Y0: p.Y, X1: p.X + 1, Y1: p.Y + 1}, true
		}
		for p.X < least.X0 {
			least.X0--
		}
		for p.Y < least.Y0 {
			least.Y0--
		}
		for p.X >= least.X1 {
			least.X1++
		}
		for p.Y >= least.Y1 {
			least.Y1++
		}
	}
	return least
}

func TestEmptyWrittenOut(t *testing.T) {
	for _, c := range []struct {
		b    impl.Box
		want bool
	}{
		{impl.Box{}, true}, {impl.Box{X1: 1, Y1: 1}, false}, {impl.Box{X0: -5, Y0: -5, X1: -4, Y1: -4}, false},
		{impl.Box{X0: 1, X1: 2, Y1: 1}, false}, {impl.Box{X0: 2, X1: 2, Y1: 1}, true}, {impl.Box{X0: 3, X1: 2, Y1: 1}, true},
		{impl.Box{Y0: 1, X1: 1, Y1: 2}, false}, {impl.Box{Y0: 2, X1: 1, Y1: 2}, true}, {impl.Box{Y0: 3, X1: 1, Y1: 2}, true},
		{impl.Box{X0: 3, Y0: 3, X1: 2, Y1: 2}, true}, {wholeBox, false},
		{impl.Box{X0: math.MaxInt - 1, Y0: math.MinInt, X1: math.MaxInt, Y1: math.MinInt + 1}, false},
		{impl.Box{X0: math.MinInt, Y0: math.MaxInt - 1, X1: math.MinInt + 1, Y1: math.MaxInt}, false},
		{impl.Box{X0: math.MaxInt, X1: math.MaxInt, Y1: 1}, true}, {impl.Box{X0: math.MinInt, X1: math.MinInt, Y1: 1}, true},
		{impl.Box{Y0: math.MaxInt, X1: 1, Y1: math.MaxInt}, true}, {impl.Box{Y0: math.MinInt, X1: 1, Y1: math.MinInt}, true},
		{impl.Box{X0: math.MaxInt, X1: math.MinInt, Y1: 1}, true}, {impl.Box{Y0: math.MaxInt, X1: 1, Y1: math.MinInt}, true},
	} {
		checkEmpty(t, c.b, c.want)
	}
	for _, b := range emptyBoxes {
		checkEmpty(t, b, true)
	}
}

// Each side by itself, the other one as wide as may be and one wide.
func TestEmptyOfAllPairs(t *testing.T) {
	for _, from := range boxEdges {
		for _, to := range boxEdges {
			for _, other := range [][2]int{{0, 1}, {math.MinInt, math.MaxInt}, {-1, 0}} {
				checkEmpty(t, impl.Box{X0: from, Y0: other[0], X1: to, Y1: other[1]}, from >= to)
				checkEmpty(t, impl.Box{X0: other[0], Y0: from, X1: other[1], Y1: to}, from >= to)
			}
			checkEmpty(t, impl.Box{X0: from, Y0: 5, X1: to, Y1: 5}, true)
			checkEmpty(t, impl.Box{X0: 5, Y0: from, X1: 5, Y1: to}, true)
		}
	}
}

func TestEmptyHasNoPoint(t *testing.T) {
	points := pointsWithin(-3, 3)
	for _, b := range boxesWithin(-2, 2) {
		some := slices.ContainsFunc(points, func(p impl.Point) bool { return hasPoint(b, p) })
		checkEmpty(t, b, !some)
	}
}

func TestJoinBoxWrittenOut(t *testing.T) {
	for _, c := range [][3]impl.Box{
		{{X1: 2, Y1: 2}, {X0: 1, Y0: 1, X1: 5, Y1: 3}, {X1: 5, Y1: 3}},
		{{X0: -10, Y0: -20, X1: -8, Y1: -15}, {X0: 30, Y0: 40, X1: 33, Y1: 44}, {X0: -10, Y0: -20, X1: 33, Y1: 44}},
		{{X0: -10, Y0: 40, X1: -8, Y1: 44}, {X0: 30, Y0: -20, X1: 33, Y1: -15}, {X0: -10, Y0: -20, X1: 33, Y1: 44}},
		{{X0: 1, Y0: 2, X1: 10, Y1: 20}, {X0: 3, Y0: 4, X1: 5, Y1: 6}, {X0: 1, Y0: 2, X1: 10, Y1: 20}},
		{{X0: 1, Y0: 2, X1: 10, Y1: 20}, {X0: 1, Y0: 2, X1: 10, Y1: 20}, {X0: 1, Y0: 2, X1: 10, Y1: 20}},
		{{X0: 5, Y0: 5, X1: 6, Y1: 6}, {X0: 8, Y0: 8, X1: 9, Y1: 9}, {X0: 5, Y0: 5, X1: 9, Y1: 9}},
		{{X0: -9, Y0: -9, X1: -8, Y1: -8}, {X0: -6, Y0: -6, X1: -5, Y1: -5}, {X0: -9, Y0: -9, X1: -5, Y1: -5}},
		{wholeBox, {X0: 3, Y0: 4, X1: 5, Y1: 6}, wholeBox},
		{wholeBox, wholeBox, wholeBox},
		{{X0: math.MinInt, Y0: math.MinInt, X1: 1, Y1: 1}, {X0: -1, Y0: -1, X1: math.MaxInt, Y1: math.MaxInt}, wholeBox},
		{{X0: math.MinInt, Y0: 3, X1: math.MinInt + 1, Y1: 4}, {X0: math.MaxInt - 1, Y0: 5, X1: math.MaxInt, Y1: 6}, {X0: math.MinInt, Y0: 3, X1: math.MaxInt, Y1: 6}},
	} {
		checkJoinBox(t, c[0], c[1], c[2])
	}
}

func TestJoinBoxOfWhatIsEmpty(t *testing.T) {
	for _, e := range emptyBoxes {
		for _, b := range []impl.Box{{X1: 1, Y1: 1}, {X0: 5, Y0: 6, X1: 7, Y1: 8}, {X0: -8, Y0: -7, X1: -6, Y1: -5}, wholeBox} {
			checkJoinBox(t, e, b, b)
		}
		for _, other := range emptyBoxes {
			checkJoinBox(t, e, other, impl.Box{})
		}
	}
}

func TestMeetBoxWrittenOut(t *testing.T) {
	middle := impl.Box{X0: 10, Y0: 10, X1: 20, Y1: 20}
	for _, c := range [][3]impl.Box{
		{{X1: 2, Y1: 2}, {X0: 1, Y0: 1, X1: 5, Y1: 3}, {X0: 1, Y0: 1, X1: 2, Y1: 2}},
		{middle, {X0: 12, Y0: 13, X1: 14, Y1: 15}, {X0: 12, Y0: 13, X1: 14, Y1: 15}},
		{middle, middle, middle},
		{middle, {X0: 0, Y0: 12, X1: 30, Y1: 13}, {X0: 10, Y0: 12, X1: 20, Y1: 13}},
		{middle, {X0: 19, Y0: 19, X1: 30, Y1: 30}, {X0: 19, Y0: 19, X1: 20, Y1: 20}},
		{middle, {X0: 20, Y0: 10, X1: 30, Y1: 20}, {}},
		{middle, {X0: 0, Y0: 10, X1: 10, Y1: 20}, {}},
		{middle, {X0: 10, Y0: 20, X1: 20, Y1: 30}, {}},
		{middle, {X0: 10, Y0: 0, X1: 20, Y1: 10}, {}},
		{middle, {X0: 20, Y0: 20, X1: 30, Y1: 30}, {}},
		{middle, {X0: 0, Y0: 0, X1: 10, Y1: 10}, {}},
		{middle, {X0: 20, Y0: 0, X1: 30, Y1: 10}, {}},
		{middle, {X0: 0, Y0: 20, X1: 10, Y1: 30}, {}},
		{middle, {X0: 25, Y0: 25, X1: 30, Y1: 30}, {}},
		{middle, {X0: 25, Y0: 10, X1: 30, Y1: 20}, {}},
		{middle, {X0: 10, Y0: 25, X1: 20, Y1: 30}, {}},
		{wholeBox, middle, middle},
		{wholeBox, wholeBox, wholeBox},
		{{X0: math.MinInt, Y0: math.MinInt, X1: 1, Y1: 2}, {X0: -1, Y0: -2, X1: math.MaxInt, Y1: math.MaxInt}, {X0: -1, Y0: -2, X1: 1, Y1: 2}},
	} {
		checkMeetBox(t, c[0], c[1], c[2])
	}
}

func TestMeetBoxOfWhatIsEmpty(t *testing.T) {
	for _, e := range emptyBoxes {
		for _, b := range []impl.Box{{X1: 1, Y1: 1}, {X0: -20, Y0: -20, X1: 20, Y1: 20}, wholeBox} {
			checkMeetBox(t, e, b, impl.Box{})
		}
		for _, other := range emptyBoxes {
			checkMeetBox(t, e, other, impl.Box{})
		}
	}
}

// All pairs of small boxes, held against the points that they have.
func TestJoinAndMeetPointByPoint(t *testing.T) {
	points := pointsWithin(-2, 2)
	boxes := boxesWithin(-1, 2)
	for _, a := range boxes {
		for _, b := range boxes {
			either := leastAround(points, func(p impl.Point) bool { return hasPoint(a, p) || hasPoint(b, p) })
			both := leastAround(points, func(p impl.Point) bool { return hasPoint(a, p) && hasPoint(b, p) })
			if got := impl.JoinBox(a, b); got != either {
				t.Fatalf("JoinBox(%v, %v) = %v, want %v", a, b, got, either)
			}
			if got := impl.MeetBox(a, b); got != both {
				t.Fatalf("MeetBox(%v, %v) = %v, want %v", a, b, got, both)
			}
		}
	}
}

func TestPromise5JoinedHasBothMetIsInBoth(t *testing.T) {
	boxes := append([]impl.Box{wholeBox, {X0: 3, Y0: 4, X1: 9, Y1: 8}, {X0: -6, Y0: -6, X1: 4, Y1: 5}, {X0: 5, Y0: 5, X1: 6, Y1: 6}}, emptyBoxes...)
	for _, x := range boxEdges {
		boxes = append(boxes, impl.Box{X0: x, Y0: -5, X1: 300, Y1: 5}, impl.Box{X0: -5, Y0: x, X1: 5, Y1: 300}, impl.Box{X0: -300, Y0: -5, X1: x, Y1: 5}, impl.Box{X0: -5, Y0: -300, X1: 5, Y1: x})
	}
	points := []impl.Point{}
	for _, x := range []int{math.MinInt, -boxFar, -300, -6, -5, -1, 0, 3, 4, 5, 299, 300, boxFar, math.MaxInt - 1, math.MaxInt} {
		for _, y := range []int{math.MinInt, -300, -5, 0, 4, 5, 299, math.MaxInt} {
			points = append(points, impl.Point{X: x, Y: y})
		}
	}
	for _, a := range boxes {
		for _, b := range boxes {
			join, meet := impl.JoinBox(a, b), impl.MeetBox(a, b)
			for _, p := range points {
				inA, inB := impl.InBox(a, p), impl.InBox(b, p)
				if (inA || inB) && !impl.InBox(join, p) {
					t.Fatalf("JoinBox(%v, %v) = %v has not %v", a, b, join, p)
				}
				if impl.InBox(meet, p) != (inA && inB) {
					t.Fatalf("MeetBox(%v, %v) = %v and %v", a, b, meet, p)
				}
			}
		}
	}
}

func TestGrowBoxWrittenOut(t *testing.T) {
	b := impl.Box{X0: 1, Y0: 20, X1: 300, Y1: 4000}
	for _, c := range []struct {
		n    int
		want impl.Box
	}{
		{1, impl.Box{X0: 0, Y0: 19, X1: 301, Y1: 4001}}, {100, impl.Box{X0: -99, Y0: -80, X1: 400, Y1: 4100}},
		{0, b}, {-1, b}, {-impl.Far, b}, {math.MinInt, b},
		{8388607, impl.Box{X0: -8388606, Y0: -8388587, X1: 8388907, Y1: 8392607}},
		{8388608, impl.Box{X0: -8388607, Y0: -8388588, X1: 8388908, Y1: 8392608}},
		{8388609, impl.Box{X0: -8388607, Y0: -8388588, X1: 8388908, Y1: 8392608}},
		{math.MaxInt, impl.Box{X0: -8388607, Y0: -8388588, X1: 8388908, Y1: 8392608}},
	} {
		checkGrowBox(t, b, c.n, c.want)
	}
}

func TestGrowBoxAtItsLimits(t *testing.T) {
	const far = boxFar
	atLimits := impl.Box{X0: -far, Y0: -far, X1: far, Y1: far}
	for _, c := range []struct {
		b    impl.Box
		n    int
		want impl.Box
	}{
		{impl.Box{X0: -far + 1, Y0: -far + 1, X1: far - 1, Y1: far - 1}, 1, atLimits},
		{impl.Box{X0: -far + 1, Y0: -far + 1, X1: far - 1, Y1: far - 1}, 2, atLimits},
		{atLimits, 0, atLimits}, {atLimits, 1, atLimits}, {atLimits, math.MaxInt, atLimits},
		{impl.Box{X0: -far - 1, Y0: -far - 1, X1: far + 1, Y1: far + 1}, 0, atLimits},
		{wholeBox, 0, atLimits}, {wholeBox, 1, atLimits}, {wholeBox, impl.Far, atLimits}, {wholeBox, math.MaxInt, atLimits}, {wholeBox, math.MinInt, atLimits},
		{impl.Box{X0: -far + 5, X1: 1, Y1: 1}, 5, impl.Box{X0: -far, Y0: -5, X1: 6, Y1: 6}},
		{impl.Box{X0: -far + 5, X1: 1, Y1: 1}, 6, impl.Box{X0: -far, Y0: -6, X1: 7, Y1: 7}},
		{impl.Box{Y0: -far + 5, X1: 1, Y1: 1}, 5, impl.Box{X0: -5, Y0: -far, X1: 6, Y1: 6}},
		{impl.Box{Y0: -far + 5, X1: 1, Y1: 1}, 6, impl.Box{X0: -6, Y0: -far, X1: 7, Y1: 7}},
		{impl.Box{X1: far - 5, Y1: 1}, 5, impl.Box{X0: -5, Y0: -5, X1: far, Y1: 6}},
		{impl.Box{X1: far - 5, Y1: 1}, 6, impl.Box{X0: -6, Y0: -6, X1: far, Y1: 7}},
		{impl.Box{X1: 1, Y1: far - 5}, 5, impl.Box{X0: -5, Y0: -5, X1: 6, Y1: far}},
		{impl.Box{X1: 1, Y1: far - 5}, 6, impl.Box{X0: -6, Y0: -6, X1: 7, Y1: far}},
		{impl.Box{X0: far + 5, X1: far + 9, Y1: 1}, 10, impl.Box{X0: far - 5, Y0: -10, X1: far, Y1: 11}},
		{impl.Box{Y0: -far - 9, X1: 1, Y1: -far - 5}, 10, impl.Box{X0: -10, Y0: -far, X1: 11, Y1: -far + 5}},
		{impl.Box{X0: far + impl.Far - 1, X1: math.MaxInt, Y1: 1}, impl.Far, impl.Box{X0: far - 1, Y0: -impl.Far, X1: far, Y1: impl.Far + 1}},
		{impl.Box{X0: math.MinInt, Y0: math.MinInt, X1: -far - impl.Far + 1, Y1: -far - impl.Far + 1}, impl.Far, impl.Box{X0: -far, Y0: -far, X1: -far + 1, Y1: -far + 1}},
		{impl.Box{X0: math.MinInt, Y0: math.MinInt, X1: math.MinInt + 1, Y1: math.MinInt + 1}, 1, impl.Box{X0: -far, Y0: -far, X1: -far, Y1: -far}},
		{impl.Box{X0: math.MaxInt - 1, Y0: math.MaxInt - 1, X1: math.MaxInt, Y1: math.MaxInt}, 1, impl.Box{X0: far, Y0: far, X1: far, Y1: far}},
	} {
		checkGrowBox(t, c.b, c.n, c.want)
	}
}

func TestGrowBoxOfWhatIsEmpty(t *testing.T) {
	for _, e := range emptyBoxes {
		for _, n := range []int{math.MinInt, -1, 0, 1, 10, impl.Far, impl.Far + 1, math.MaxInt} {
			checkGrowBox(t, e, n, impl.Box{})
		}
	}
}

func TestGrowBoxByNumbersWithoutALimit(t *testing.T) {
	for _, n := range boxEdges {
		more := max(0, min(n, impl.Far))
		for _, from := range boxEdges {
			for _, to := range boxEdges {
				if from >= to {
					continue
				}
				low, high := sumWithinBoxFar(from, -more), sumWithinBoxFar(to, more)
				checkGrowBox(t, impl.Box{X0: from, Y0: 3, X1: to, Y1: 4}, n, impl.Box{X0: low, Y0: 3 - more, X1: high, Y1: 4 + more})
				checkGrowBox(t, impl.Box{X0: 3, Y0: from, X1: 4, Y1: to}, n, impl.Box{X0: 3 - more, Y0: low, X1: 4 + more, Y1: high})
			}
		}
	}
}

func TestInBoxWrittenOut(t *testing.T) {
	b := impl.Box{X0: 10, Y0: 20, X1: 30, Y1: 40}
	for _, x := range []int{math.MinInt, -10, 9, 10, 11, 20, 29, 30, 31, math.MaxInt} {
		for _, y := range []int{math.MinInt, -20, 19, 20, 21, 30, 39, 40, 41, math.MaxInt} {
			want := slices.Contains([]int{10, 11, 20, 29}, x) && slices.Contains([]int{20, 21, 30, 39}, y)
			checkInBox(t, b, impl.Point{X: x, Y: y}, want)
		}
	}
	one := impl.Box{X0: -1, Y0: -1}
	for _, p := range pointsWithin(-3, 2) {
		checkInBox(t, one, p, p == impl.Point{X: -1, Y: -1})
	}
	for _, x := range []int{math.MinInt, -1, 0, 1, math.MaxInt - 1, math.MaxInt} {
		checkInBox(t, wholeBox, impl.Point{X: x}, x != math.MaxInt)
		checkInBox(t, wholeBox, impl.Point{Y: x}, x != math.MaxInt)
	}
}

func TestInBoxOfWhatIsEmpty(t *testing.T) {
	for _, e := range emptyBoxes {
		for _, x := range []int{math.MinInt, -10, -9, -8, 0, 3, 4, 7, 8, 9, math.MaxInt - 1, math.MaxInt} {
			for _, y := range []int{math.MinInt, -10, -9, -8, 0, 3, 4, 7, 8, 9, math.MaxInt - 1, math.MaxInt} {
				checkInBox(t, e, impl.Point{X: x, Y: y}, false)
			}
		}
	}
}

func TestInBoxOfAllSmallBoxes(t *testing.T) {
	for _, b := range boxesWithin(-2, 2) {
		for _, p := range pointsWithin(-3, 3) {
			checkInBox(t, b, p, hasPoint(b, p))
		}
	}
}

func TestBoxOfWrittenOut(t *testing.T) {
	checkBoxOf(t, nil, impl.Box{})
	checkBoxOf(t, []impl.Point{}, impl.Box{})
	for _, c := range []struct {
		list []impl.Point
		want impl.Box
	}{
		{[]impl.Point{{}}, impl.Box{X1: 1, Y1: 1}},
		{[]impl.Point{{X: 3, Y: 4}}, impl.Box{X0: 3, Y0: 4, X1: 4, Y1: 5}},
		{[]impl.Point{{X: -3, Y: -4}}, impl.Box{X0: -3, Y0: -4, X1: -2, Y1: -3}},
		{[]impl.Point{{X: -1, Y: -1}}, impl.Box{X0: -1, Y0: -1}},
		{[]impl.Point{{X: 3, Y: 4}, {X: 3, Y: 4}}, impl.Box{X0: 3, Y0: 4, X1: 4, Y1: 5}},
		{[]impl.Point{{X: 3, Y: 4}, {X: 7, Y: 1}}, impl.Box{X0: 3, Y0: 1, X1: 8, Y1: 5}},
		{[]impl.Point{{X: 7, Y: 1}, {X: 3, Y: 4}}, impl.Box{X0: 3, Y0: 1, X1: 8, Y1: 5}},
		{[]impl.Point{{X: 5, Y: 5}, {X: 5, Y: 9}}, impl.Box{X0: 5, Y0: 5, X1: 6, Y1: 10}},
		{[]impl.Point{{X: 5, Y: 5}, {X: -9, Y: 6}, {X: 6, Y: 70}, {X: 8, Y: -2}, {X: 5, Y: 5}}, impl.Box{X0: -9, Y0: -2, X1: 9, Y1: 71}},
		{[]impl.Point{{X: 10, Y: 10}, {X: 12, Y: 15}, {X: 11, Y: 19}}, impl.Box{X0: 10, Y0: 10, X1: 13, Y1: 20}},
		{[]impl.Point{{X: -10, Y: -10}, {X: -12, Y: -15}, {X: -11, Y: -19}}, impl.Box{X0: -12, Y0: -19, X1: -9, Y1: -9}},
	} {
		checkBoxOf(t, c.list, c.want)
	}
}

func TestBoxOfAtItsLimits(t *testing.T) {
	const far = boxFar
	for _, c := range []struct {
		list []impl.Point
		want impl.Box
	}{
		{[]impl.Point{{X: far - 1, Y: far - 1}}, impl.Box{X0: far - 1, Y0: far - 1, X1: far, Y1: far}},
		{[]impl.Point{{X: far, Y: far}}, impl.Box{X0: far, Y0: far, X1: far + 1, Y1: far + 1}},
		{[]impl.Point{{X: far}}, impl.Box{X0: far, X1: far + 1, Y1: 1}},
		{[]impl.Point{{Y: far}}, impl.Box{Y0: far, X1: 1, Y1: far + 1}},
		{[]impl.Point{{X: -far, Y: -far}}, impl.Box{X0: -far, Y0: -far, X1: -far + 1, Y1: -far + 1}},
		{[]impl.Point{{X: far, Y: 5}, {X: 6, Y: far}}, impl.Box{X0: 6, Y0: 5, X1: far + 1, Y1: far + 1}},
		{[]impl.Point{{X: -far, Y: 5}, {X: 6, Y: -far}}, impl.Box{X0: -far, Y0: -far, X1: 7, Y1: 6}},
	} {
		checkBoxOf(t, c.list, c.want)
	}
}

// A number past the limit counts as the limit, from where X1 and Y1 are one more as of any point.
func TestBoxOfPastItsLimits(t *testing.T) {
	const far = boxFar
	for _, past := range []int{far + 1, far + 2, 2 * far, math.MaxInt - 1, math.MaxInt} {
		checkBoxOf(t, []impl.Point{{X: past}}, impl.Box{X0: far, X1: far + 1, Y1: 1})
		checkBoxOf(t, []impl.Point{{X: 5, Y: past}}, impl.Box{X0: 5, Y0: far, X1: 6, Y1: far + 1})
		checkBoxOf(t, []impl.Point{{X: past, Y: 5}, {X: 6, Y: past}}, impl.Box{X0: 6, Y0: 5, X1: far + 1, Y1: far + 1})
	}
	for _, past := range []int{-far - 1, -far - 2, -2 * far, math.MinInt + 1, math.MinInt} {
		checkBoxOf(t, []impl.Point{{X: past}}, impl.Box{X0: -far, X1: -far + 1, Y1: 1})
		checkBoxOf(t, []impl.Point{{X: 5, Y: past}}, impl.Box{X0: 5, Y0: -far, X1: 6, Y1: -far + 1})
		checkBoxOf(t, []impl.Point{{X: past, Y: 5}, {X: 6, Y: past}}, impl.Box{X0: -far, Y0: -far, X1: 7, Y1: 6})
	}
	checkBoxOf(t, []impl.Point{{X: 1, Y: 2}, {X: math.MaxInt, Y: math.MinInt}}, impl.Box{X0: 1, Y0: -far, X1: far + 1, Y1: 3})
	checkBoxOf(t, []impl.Point{{X: math.MinInt, Y: math.MaxInt}, {X: math.MaxInt, Y: math.MinInt}}, impl.Box{X0: -far, Y0: -far, X1: far + 1, Y1: far + 1})
}

func TestBoxOfByNumbersWithoutALimit(t *testing.T) {
	within := func(n int) int { return sumWithinBoxFar(n, 0) }
	for _, x := range boxEdges {
		for _, y := range boxEdges {
			checkBoxOf(t, []impl.Point{{X: x, Y: y}}, impl.Box{X0: within(x), Y0: within(y), X1: within(x) + 1, Y1: within(y) + 1})
			for _, other := range boxEdges {
				low, high := within(min(x, other)), within(max(x, other))+1
				checkBoxOf(t, []impl.Point{{X: x, Y: y}, {X: other, Y: y}}, impl.Box{X0: low, Y0: within(y), X1: high, Y1: within(y) + 1})
				checkBoxOf(t, []impl.Point{{X: y, Y: x}, {X: y, Y: other}}, impl.Box{X0: within(y), Y0: low, X1: within(y) + 1, Y1: high})
			}
		}
	}
}

// The box is never empty, and has each point, as far as it counts.
func TestPromise5BoxOfHasEachPoint(t *testing.T) {
	for _, x := range boxEdges {
		for _, y := range boxEdges {
			list := []impl.Point{{X: x, Y: y}, {X: y, Y: x}, {X: x, Y: 3}, {X: 3, Y: y}}
			for n := range list {
				around := impl.BoxOf(list[:n+1])
				for _, p := range list[:n+1] {
					if counts := (impl.Point{X: sumWithinBoxFar(p.X, 0), Y: sumWithinBoxFar(p.Y, 0)}); !impl.InBox(around, counts) {
						t.Fatalf("BoxOf(%v) = %v has not %v", list[:n+1], around, counts)
					}
				}
			}
		}
	}
}

// Every list of three small points, held against the sides that are tried one by one.
func TestBoxOfHasAllPointsAndIsTheLeast(t *testing.T) {
	points := pointsWithin(-1, 2)
	for _, a := range points {
		for _, b := range points {
			for _, c := range points {
				list := []impl.Point{a, b, c}
				checkBoxOf(t, list, leastAround(points, func(p impl.Point) bool { return slices.Contains(list, p) }))
			}
		}
	}
}

func TestBoxOfOfMany(t *testing.T) {
	list := []impl.Point{}
	seed := uint32(11)
	for range 5000 {
		seed = seed*1664525 + 1013904223
		x := int(seed>>12) - 1<<19
		seed = seed*1664525 + 1013904223
		list = append(list, impl.Point{X: x, Y: int(seed>>14) - 1<<17})
	}
	least, greatest := list[0], list[0]
	for _, p := range list {
		least = impl.Point{X: min(least.X, p.X), Y: min(least.Y, p.Y)}
		greatest = impl.Point{X: max(greatest.X, p.X), Y: max(greatest.Y, p.Y)}
	}
	checkBoxOf(t, list, impl.Box{X0: least.X, Y0: least.Y, X1: greatest.X + 1, Y1: greatest.Y + 1})
}

// What is spare behind the list is no part of it, and stays as it is.
func TestBoxOfLeavesTheSpareRoom(t *testing.T) {
	room := []impl.Point{{X: 1, Y: 2}, {X: 3, Y: 4}, {X: 900, Y: -900}, {X: -900, Y: 900}}
	checkBoxOf(t, room[:2], impl.Box{X0: 1, Y0: 2, X1: 4, Y1: 5})
	checkBoxOf(t, room[:0], impl.Box{})
	if !slices.Equal(room, []impl.Point{{X: 1, Y: 2}, {X: 3, Y: 4}, {X: 900, Y: -900}, {X: -900, Y: 900}}) {
		t.Errorf("the room became %v", room)
	}
}

func TestSquaresWrittenOut(t *testing.T) {
	for _, c := range [][2]impl.Box{
		{{X0: -1, X1: 257, Y1: 256}, {X0: -1, X1: 2, Y1: 1}},
		{{X1: 1, Y1: 1}, {X1: 1, Y1: 1}},
		{{X1: 255, Y1: 255}, {X1: 1, Y1: 1}},
		{{X1: 256, Y1: 256}, {X1: 1, Y1: 1}},
		{{X1: 257, Y1: 257}, {X1: 2, Y1: 2}},
		{{X0: 255, Y0: 255, X1: 600, Y1: 600}, {X1: 3, Y1: 3}},
		{{X0: 256, Y0: 256, X1: 600, Y1: 600}, {X0: 1, Y0: 1, X1: 3, Y1: 3}},
		{{X0: 257, Y0: 257, X1: 600, Y1: 600}, {X0: 1, Y0: 1, X1: 3, Y1: 3}},
		{{X0: 300, Y0: 300, X1: 301, Y1: 301}, {X0: 1, Y0: 1, X1: 2, Y1: 2}},
		{{X0: -255, Y0: -255, X1: 1, Y1: 1}, {X0: -1, Y0: -1, X1: 1, Y1: 1}},
		{{X0: -256, Y0: -256, X1: 1, Y1: 1}, {X0: -1, Y0: -1, X1: 1, Y1: 1}},
		{{X0: -257, Y0: -257, X1: 1, Y1: 1}, {X0: -2, Y0: -2, X1: 1, Y1: 1}},
		{{X0: -600, Y0: -600, X1: -255, Y1: -255}, {X0: -3, Y0: -3}},
		{{X0: -600, Y0: -600, X1: -256, Y1: -256}, {X0: -3, Y0: -3, X1: -1, Y1: -1}},
		{{X0: -600, Y0: -600, X1: -257, Y1: -257}, {X0: -3, Y0: -3, X1: -1, Y1: -1}},
		{{X0: -1, Y0: -1}, {X0: -1, Y0: -1}},
		{{X0: -512, Y0: 256, X1: 1024, Y1: 768}, {X0: -2, Y0: 1, X1: 4, Y1: 3}},
	} {
		checkSquares(t, c[0], c[1])
	}
}

func TestSquaresAtTheirLimits(t *testing.T) {
	const far, squares = boxFar, 131072
	whole := impl.Box{X0: -squares, Y0: -squares, X1: squares, Y1: squares}
	for _, c := range [][2]impl.Box{
		{{X0: -far, Y0: -far, X1: far, Y1: far}, whole},
		{{X0: -far - 1, Y0: -far - 1, X1: far + 1, Y1: far + 1}, whole},
		{{X0: -far + 1, Y0: -far + 1, X1: far - 1, Y1: far - 1}, whole},
		{{X0: -far + 256, Y0: -far + 256, X1: far - 256, Y1: far - 256}, {X0: -squares + 1, Y0: -squares + 1, X1: squares - 1, Y1: squares - 1}},
		{wholeBox, whole},
		{{X0: -far - 1, X1: 1, Y1: 1}, {X0: -squares, X1: 1, Y1: 1}},
		{{Y0: -far - 1, X1: 1, Y1: 1}, {Y0: -squares, X1: 1, Y1: 1}},
		{{X1: far + 1, Y1: 1}, {X1: squares, Y1: 1}},
		{{X1: 1, Y1: far + 1}, {X1: 1, Y1: squares}},
		{{X0: math.MinInt, X1: 1, Y1: 1}, {X0: -squares, X1: 1, Y1: 1}},
		{{Y0: math.MinInt, X1: 1, Y1: 1}, {Y0: -squares, X1: 1, Y1: 1}},
		{{X1: math.MaxInt, Y1: 1}, {X1: squares, Y1: 1}},
		{{X1: 1, Y1: math.MaxInt}, {X1: 1, Y1: squares}},
		{{X0: far, X1: far + 1, Y1: 1}, {X0: squares, X1: squares, Y1: 1}},
		{{Y0: -far - 9, X1: 1, Y1: -far}, {Y0: -squares, X1: 1, Y1: -squares}},
	} {
		checkSquares(t, c[0], c[1])
	}
}

func TestSquaresOfWhatIsEmpty(t *testing.T) {
	for _, e := range append([]impl.Box{{X0: 300, Y0: 300, X1: 300, Y1: 301}, {X0: 300, Y0: 300, X1: 299, Y1: 900}, {X0: -300, Y0: -300, X1: 900, Y1: -300}}, emptyBoxes...) {
		checkSquares(t, e, impl.Box{})
	}
}

func TestSquaresByNumbersWithoutALimit(t *testing.T) {
	down := func(n int) int { return floorByLibrary(big.NewInt(int64(sumWithinBoxFar(n, 0))), 256) }
	up := func(n int) int { return floorByLibrary(big.NewInt(int64(sumWithinBoxFar(n, 0))+255), 256) }
	numbers := append([]int{-1000, -769, -768, -767, -513, -512, -511, 511, 512, 513, 767, 768, 769, 1000}, boxEdges...)
	for _, from := range numbers {
		for _, to := range numbers {
			if from >= to {
				continue
			}
			checkSquares(t, impl.Box{X0: from, Y0: 5, X1: to, Y1: 500}, impl.Box{X0: down(from), X1: up(to), Y1: 2})
			checkSquares(t, impl.Box{X0: 5, Y0: from, X1: 500, Y1: to}, impl.Box{Y0: down(from), X1: 2, Y1: up(to)})
		}
	}
}

// Within the limits, a square is one of them when one of the box's units lies on it.
func TestSquaresAreThoseThatTheBoxMeets(t *testing.T) {
	for from := -520; from < 520; from += 7 {
		for _, wide := range []int{1, 2, 100, 255, 256, 257, 511, 512, 513} {
			got := impl.Squares(impl.Box{X0: from, X1: from + wide, Y1: 1})
			for square := -5; square < 6; square++ {
				lies := from < square*256+256 && square*256 < from+wide
				if impl.InBox(got, impl.Point{X: square}) != lies {
					t.Fatalf("Squares from %d, %d wide: %v and the square %d", from, wide, got, square)
				}
			}
		}
	}
}
