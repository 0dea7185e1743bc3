package tests

import (
	"math"
	"slices"
	"testing"

	"loop.example/g00190/impl"
)

var wrongDashes = []int{math.MinInt, math.MinInt + 1, -20000, -2, -1, 0, 20001, 20002, 1 << 32, math.MaxInt - 1, math.MaxInt}

var wrongLengths = []int{math.MinInt, math.MinInt + 1, -50000000, -2, -1, 0, 50000001, 50000002, 1 << 32, math.MaxInt - 1, math.MaxInt}

var wrongPhases = []int{math.MinInt, math.MinInt + 1, -20000, -2, -1, 20001, 20002, 1 << 32, math.MaxInt - 1, math.MaxInt}

// Lists of dashes that are not right, each for one cause.
func wrongDashLists() [][]int {
	lists := [][]int{{1}, {20000}, {5, 6, 7}, {5, 6, 7, 8, 9}, {5, 6, 7, 8, 9, 10}, slices.Repeat([]int{3}, 7), slices.Repeat([]int{3}, 8), slices.Repeat([]int{1}, 1000)}
	for _, wrong := range wrongDashes {
		for _, size := range []int{2, 4} {
			for place := range size {
				list := slices.Repeat([]int{30}, size)
				list[place] = wrong
				lists = append(lists, list)
			}
		}
	}
	return lists
}

// Of right points and a right length.
func pointByLibrary(a impl.Point, b impl.Point, at int, length int) impl.Point {
	at = max(0, min(at, length))
	return impl.Point{X: a.X + roundByLibrary((b.X-a.X)*at, length), Y: a.Y + roundByLibrary((b.Y-a.Y)*at, length)}
}

// The corners of a line, no two that follow each other the same, and how far along it each of them is.
type measured struct {
	corners []impl.Point
	ways    []int
}

func measuredLine(line []impl.Point) measured {
	m := measured{corners: slices.Compact(slices.Clone(line)), ways: []int{0}}
	for i, b := range m.corners[1:] {
		m.ways = append(m.ways, m.ways[i]+lengthByLibrary(m.corners[i], b))
	}
	return m
}

func (m measured) whole() int {
	return m.ways[len(m.ways)-1]
}

// A corner counts to the piece behind it.
func (m measured) pointOf(way int) impl.Point {
	i := 0
	for m.ways[i+1] <= way {
		i++
	}
	return pointByLibrary(m.corners[i], m.corners[i+1], way-m.ways[i], m.ways[i+1]-m.ways[i])
}

func (m measured) part(from int, to int) []impl.Point {
	list := []impl.Point{m.pointOf(max(from, 0))}
	for i, way := range m.ways {
		if way > max(from, 0) && way <= to {
			list = append(list, m.corners[i])
		}
	}
	if to < m.whole() {
		list = append(list, m.pointOf(to))
	}
	return list
}

// Of right arguments, with dashes: each dash as the part of the whole way that it takes.
func dashesByWay(line []impl.Point, dashes []int, phase int) [][]impl.Point {
	m := measuredLine(line)
	stretches := [][]impl.Point{}
	for k, from := 0, -phase; from < m.whole(); k++ {
		to := from + dashes[k%len(dashes)]
		if k%2 == 0 && to > 0 && m.whole() > 0 {
			stretches = append(stretches, m.part(from, to))
		}
		from = to
	}
	return stretches
}

func checkDashOk(t *testing.T, list []int, want bool) {
	t.Helper()
	before := slices.Clone(list)
	if got := impl.DashOk(list); got != want {
		t.Errorf("DashOk(%v) = %v, want %v", list, got, want)
	}
	if !slices.Equal(list, before) {
		t.Errorf("DashOk(%v) wrote into its list: %v", before, list)
	}
}

func checkPointAt(t *testing.T, a impl.Point, b impl.Point, at int, length int, want impl.Point) {
	t.Helper()
	if got := impl.PointAt(a, b, at, length); got != want {
		t.Errorf("PointAt(%v, %v, %d, %d) = %v, want %v", a, b, at, length, got, want)
	}
}

func checkDashOf(t *testing.T, line []impl.Point, dashes []int, phase int, want [][]impl.Point) {
	t.Helper()
	lineBefore, dashesBefore := slices.Clone(line), slices.Clone(dashes)
	if got := impl.DashOf(line, dashes, phase); !sameLines(got, want) {
		t.Errorf("DashOf(%v, %v, %d) = %v, want %v", line, dashes, phase, got, want)
	}
	if !slices.Equal(line, lineBefore) || !slices.Equal(dashes, dashesBefore) {
		t.Errorf("DashOf(%v, %v, %d) wrote into its lists: %v, %v", lineBefore, dashesBefore, phase, line, dashes)
	}
}

// Level stretches of a line that runs along X, by where they begin and end.
func levelParts(numbers ...int) [][]impl.Point {
	parts := [][]impl.Point{}
	for i := 0; i+1 < len(numbers); i += 2 {
		parts = append(parts, placesOf(numbers[i], 0, numbers[i+1], 0))
	}
	return parts
}

func TestDashConstants(t *testing.T) {
	if impl.MaxDashes != 4 {
		t.Errorf("MaxDashes %d, want 4", impl.MaxDashes)
	}
}

func TestDashOkCounts(t *testing.T) {
	checkDashOk(t, nil, true)
	for size := range 40 {
		for _, dash := range []int{1, 2, 300, 19999, 20000} {
			checkDashOk(t, slices.Repeat([]int{dash}, size), size == 0 || size == 2 || size == 4)
		}
	}
}

func TestDashOkLimitsAtEachPlace(t *testing.T) {
	for _, size := range []int{2, 4} {
		for place := range size {
			for _, dash := range []int{1, 2, 19999, 20000} {
				list := slices.Repeat([]int{30}, size)
				list[place] = dash
				checkDashOk(t, list, true)
			}
		}
	}
	checkDashOk(t, []int{1, 20000, 20000, 1}, true)
	checkDashOk(t, []int{20000, 1}, true)
}

func TestDashOkOfWhatIsWrong(t *testing.T) {
	for _, list := range wrongDashLists() {
		checkDashOk(t, list, false)
	}
	checkDashOk(t, []int{0, 0}, false)
	checkDashOk(t, []int{-5, 10}, false)
	checkDashOk(t, []int{20001, 20001, 20001, 20001}, false)
}

func TestPointAtWrittenOut(t *testing.T) {
	for _, c := range []struct{ x, y, at, length, wantX, wantY int }{
		{10, 0, 1, 2, 5, 0}, {0, 10, 1, 2, 0, 5}, {-10, 20, 1, 2, -5, 10}, {10, -20, 3, 4, 8, -15},
		{30, 40, 0, 50, 0, 0}, {30, 40, 1, 50, 1, 1}, {30, 40, 10, 50, 6, 8}, {30, 40, 25, 50, 15, 20}, {30, 40, 49, 50, 29, 39}, {30, 40, 50, 50, 30, 40},
		{-30, -40, 0, 50, 0, 0}, {-30, -40, 1, 50, -1, -1}, {-30, -40, 10, 50, -6, -8}, {-30, -40, 49, 50, -29, -39}, {-30, -40, 50, 50, -30, -40},
		{100, 7, 33, 100, 33, 2}, {100, -7, 36, 100, 36, -3}, {7, 9, 0, 1, 0, 0}, {7, 9, 1, 1, 7, 9},
		{7, 9, 50000000, 50000000, 7, 9}, {7, 9, 49999999, 50000000, 7, 9}, {7, 9, 25000001, 50000000, 4, 5}, {0, 0, 3, 9, 0, 0},
	} {
		for _, a := range placesOf(0, 0, 17, -90, -1000, 3) {
			checkPointAt(t, a, impl.Point{X: a.X + c.x, Y: a.Y + c.y}, c.at, c.length, impl.Point{X: a.X + c.wantX, Y: a.Y + c.wantY})
		}
	}
}

// Just between two units the greater one counts, above 0 and below.
func TestPointAtBetweenTwoUnits(t *testing.T) {
	for _, c := range []struct{ way, at, length, want int }{
		{1, 1, 2, 1}, {-1, 1, 2, 0}, {3, 1, 2, 2}, {-3, 1, 2, -1}, {5, 5, 10, 3}, {-5, 5, 10, -2},
		{1, 3, 6, 1}, {-1, 3, 6, 0}, {3, 3, 6, 2}, {-3, 3, 6, -1}, {2, 1, 4, 1}, {-2, 1, 4, 0}, {2, 3, 4, 2}, {-2, 3, 4, -1},
		{1, 25000000, 50000000, 1}, {-1, 25000000, 50000000, 0}, {16777215, 25000000, 50000000, 8388608}, {-16777215, 25000000, 50000000, -8388607},
		{1, 24999999, 50000000, 0}, {-1, 24999999, 50000000, 0}, {1, 25000001, 50000000, 1}, {-1, 25000001, 50000000, -1},
	} {
		n := -c.way / 2
		checkPointAt(t, impl.Point{X: n, Y: 8}, impl.Point{X: n + c.way, Y: 8}, c.at, c.length, impl.Point{X: n + c.want, Y: 8})
		checkPointAt(t, impl.Point{X: -8, Y: n}, impl.Point{X: -8, Y: n + c.way}, c.at, c.length, impl.Point{X: -8, Y: n + c.want})
	}
}

func TestPointAtPastTheEnds(t *testing.T) {
	for _, pair := range rightPairs() {
		for _, length := range []int{1, 2, 50, 23726566, 49999999, 50000000} {
			for _, at := range []int{math.MinInt, math.MinInt + 1, -50000001, -50000000, -50, -1, 0} {
				checkPointAt(t, pair[0], pair[1], at, length, pair[0])
			}
			for _, at := range []int{length, length + 1, 2 * length, 50000000, 50000001, math.MaxInt - 1, math.MaxInt} {
				checkPointAt(t, pair[0], pair[1], at, length, pair[1])
			}
		}
	}
}

func TestPointAtOfWrongLengths(t *testing.T) {
	for _, length := range wrongLengths {
		for _, at := range []int{math.MinInt, -1, 0, 1, 25, 50000000, 50000001, math.MaxInt} {
			for _, pair := range rightPairs() {
				checkPointAt(t, pair[0], pair[1], at, length, pair[0])
			}
		}
	}
}

// Each number of each point by itself, at the limit and past it.
func TestPointAtAtTheLimitsOfPoints(t *testing.T) {
	other := impl.Point{X: 100, Y: 200}
	for _, n := range farAndPast {
		for _, p := range []impl.Point{{X: n, Y: 7}, {X: 7, Y: n}} {
			for _, at := range []int{-1, 0, 1, 25, 49, 50, 51, math.MaxInt} {
				there, back := p, other
				if withinFar(n) {
					there, back = pointByLibrary(p, other, at, 50), pointByLibrary(other, p, at, 50)
				}
				checkPointAt(t, p, other, at, 50, there)
				checkPointAt(t, other, p, at, 50, back)
			}
		}
	}
	for _, wrong := range wrongPoints() {
		checkPointAt(t, wrong, wrong, 1, 2, wrong)
		checkPointAt(t, wrong, impl.Point{X: -wrong.X, Y: wrong.Y}, 1, 2, wrong)
		checkPointAt(t, wrong, impl.Point{}, 2, 2, wrong)
		checkPointAt(t, wrong, impl.Point{}, 1, 0, wrong)
	}
}

func TestPointAtFromCornerToCorner(t *testing.T) {
	const far = impl.Far
	for _, sign := range placesOf(1, 1, 1, -1, -1, 1, -1, -1) {
		a, b := impl.Point{X: -sign.X * far, Y: -sign.Y * far}, impl.Point{X: sign.X * far, Y: sign.Y * far}
		checkPointAt(t, a, b, 25000000, 50000000, impl.Point{})
		checkPointAt(t, a, b, 1, 2, impl.Point{})
		checkPointAt(t, a, b, 1, 4, impl.Point{X: a.X / 2, Y: a.Y / 2})
		checkPointAt(t, a, b, 49999999, 50000000, b)
		checkPointAt(t, a, b, 49999998, 50000000, impl.Point{X: b.X - sign.X, Y: b.Y - sign.Y})
	}
}

func TestPointAtPairs(t *testing.T) {
	for _, pair := range rightPairs() {
		for _, length := range []int{1, 2, 3, 7, 50, 1000, lengthByLibrary(pair[0], pair[1]), 49999999, 50000000} {
			for _, at := range []int{1, 2, 5, length / 3, length / 2, length - 1} {
				if length > 0 {
					checkPointAt(t, pair[0], pair[1], at, length, pointByLibrary(pair[0], pair[1], at, length))
				}
			}
		}
	}
}

func TestDashOfWithoutDashes(t *testing.T) {
	for _, line := range append(slices.Concat(rightLists(2), rightLists(5)), dots(1000), placesOf(3, 3, 3, 3), placesOf(3, 3, 3, 3, 3, 3)) {
		for _, phase := range []int{0, 1, 77, 20000} {
			checkDashOf(t, line, nil, phase, [][]impl.Point{line})
			checkDashOf(t, line, []int{}, phase, [][]impl.Point{line})
		}
	}
}

// What is wrong is refused without dashes, too.
func TestDashOfWithoutDashesOfWhatIsWrong(t *testing.T) {
	for _, phase := range wrongPhases {
		checkDashOf(t, dots(2), nil, phase, nil)
	}
	for _, line := range [][]impl.Point{nil, {}, dots(1), wrongPoints(), wrongPoints()[:1], {{X: 1}, wrongPoints()[0]}} {
		checkDashOf(t, line, nil, 0, nil)
		checkDashOf(t, line, []int{}, 20000, nil)
	}
}

func TestDashOfWrongDashes(t *testing.T) {
	for _, dashes := range wrongDashLists() {
		for _, line := range [][]impl.Point{nil, dots(1), dots(2), dots(9), placesOf(0, 0, 100, 0), placesOf(5, 5, 5, 5)} {
			for _, phase := range []int{0, 10, 20000, -1, 20001} {
				checkDashOf(t, line, dashes, phase, nil)
			}
		}
	}
}

func TestDashOfOneWrongPoint(t *testing.T) {
	for _, wrong := range wrongPoints() {
		for _, size := range []int{2, 3, 6} {
			for place := range size {
				line := dots(size)
				checkDashOf(t, line, []int{30, 20}, 10, dashesByWay(line, []int{30, 20}, 10))
				line[place] = wrong
				checkDashOf(t, line, []int{30, 20}, 10, nil)
				checkDashOf(t, line, []int{20000, 1}, 0, nil)
				checkDashOf(t, line, nil, 0, nil)
			}
		}
		checkDashOf(t, []impl.Point{wrong, wrong}, []int{30, 20}, 0, nil)
	}
}

func TestDashOfFewPoints(t *testing.T) {
	for _, dashes := range [][]int{nil, {1, 1}, {30, 20}, {20000, 20000, 20000, 20000}} {
		for _, phase := range []int{0, 10, 20000} {
			for _, line := range [][]impl.Point{nil, {}, placesOf(0, 0), placesOf(3, -4), placesOf(impl.Far, impl.Far)} {
				checkDashOf(t, line, dashes, phase, nil)
			}
		}
	}
	checkDashOf(t, placesOf(0, 0, 1, 0), []int{1, 1}, 0, levelParts(0, 1))
	checkDashOf(t, placesOf(0, 0, 1, 0), []int{1, 1}, 1, nil)
}

func TestDashOfWrongPhases(t *testing.T) {
	for _, phase := range wrongPhases {
		for _, dashes := range [][]int{nil, {1, 1}, {30, 20}, {20000, 20000}, {20000, 20000, 20000, 20000}} {
			checkDashOf(t, placesOf(0, 0, 100, 0), dashes, phase, nil)
			checkDashOf(t, dots(7), dashes, phase, nil)
		}
	}
}

// In the first dash, in a gap, just at the end of one of them, and beyond the sum of all.
func TestDashOfPhases(t *testing.T) {
	for _, c := range []struct {
		dashes []int
		phase  int
		want   [][]impl.Point
	}{
		{[]int{30, 20}, 0, levelParts(0, 30, 50, 80)},
		{[]int{30, 20}, 1, levelParts(0, 29, 49, 79, 99, 100)},
		{[]int{30, 20}, 10, levelParts(0, 20, 40, 70, 90, 100)},
		{[]int{30, 20}, 29, levelParts(0, 1, 21, 51, 71, 100)},
		{[]int{30, 20}, 30, levelParts(20, 50, 70, 100)},
		{[]int{30, 20}, 31, levelParts(19, 49, 69, 99)},
		{[]int{30, 20}, 40, levelParts(10, 40, 60, 90)},
		{[]int{30, 20}, 49, levelParts(1, 31, 51, 81)},
		{[]int{30, 20}, 50, levelParts(0, 30, 50, 80)},
		{[]int{30, 20}, 51, levelParts(0, 29, 49, 79, 99, 100)},
		{[]int{30, 20}, 80, levelParts(20, 50, 70, 100)},
		{[]int{30, 20}, 110, levelParts(0, 20, 40, 70, 90, 100)},
		{[]int{30, 20}, 20000, levelParts(0, 30, 50, 80)},
		{[]int{30, 21}, 20000, levelParts(0, 22, 43, 73, 94, 100)},
		{[]int{20000, 20000}, 19999, levelParts(0, 1)},
		{[]int{20000, 20000}, 20000, nil},
		{[]int{20000, 7}, 20000, levelParts(7, 100)},
		{[]int{19950, 7}, 20000, levelParts(0, 100)},
		{[]int{1, 20000}, 19990, levelParts(11, 12)},
		{[]int{1, 20000}, 20000, levelParts(1, 2)},
		{[]int{10, 20, 30, 5}, 0, levelParts(0, 10, 30, 60, 65, 75, 95, 100)},
		{[]int{10, 20, 30, 5}, 9, levelParts(0, 1, 21, 51, 56, 66, 86, 100)},
		{[]int{10, 20, 30, 5}, 10, levelParts(20, 50, 55, 65, 85, 100)},
		{[]int{10, 20, 30, 5}, 30, levelParts(0, 30, 35, 45, 65, 95)},
		{[]int{10, 20, 30, 5}, 60, levelParts(5, 15, 35, 65, 70, 80)},
		{[]int{10, 20, 30, 5}, 64, levelParts(1, 11, 31, 61, 66, 76, 96, 100)},
		{[]int{10, 20, 30, 5}, 65, levelParts(0, 10, 30, 60, 65, 75, 95, 100)},
		{[]int{10, 20, 30, 5}, 20000, levelParts(0, 15, 20, 30, 50, 80, 85, 95)},
	} {
		checkDashOf(t, placesOf(0, 0, 100, 0), c.dashes, c.phase, c.want)
	}
}

func TestDashOfEndsAtTheLastPoint(t *testing.T) {
	for _, c := range []struct {
		long   int
		dashes []int
		want   [][]impl.Point
	}{
		{30, []int{30, 20}, levelParts(0, 30)},
		{31, []int{30, 20}, levelParts(0, 30)},
		{50, []int{30, 20}, levelParts(0, 30)},
		{51, []int{30, 20}, levelParts(0, 30, 50, 51)},
		{80, []int{30, 20}, levelParts(0, 30, 50, 80)},
		{100, []int{30, 20}, levelParts(0, 30, 50, 80)},
		{101, []int{30, 20}, levelParts(0, 30, 50, 80, 100, 101)},
		{20000, []int{20000, 1}, levelParts(0, 20000)},
		{20001, []int{20000, 1}, levelParts(0, 20000)},
		{20002, []int{20000, 1}, levelParts(0, 20000, 20001, 20002)},
		{29, []int{30, 20}, levelParts(0, 29)},
		{4, []int{1, 1}, levelParts(0, 1, 2, 3)},
		{5, []int{1, 1}, levelParts(0, 1, 2, 3, 4, 5)},
	} {
		checkDashOf(t, placesOf(0, 0, c.long, 0), c.dashes, 0, c.want)
	}
}

// At a corner the piece ahead puts the corner into the stretch, and the piece behind it ends the stretch there.
func TestDashOfAtCorners(t *testing.T) {
	line := placesOf(0, 0, 30, 0, 30, 40)
	for _, c := range []struct {
		dashes []int
		phase  int
		want   [][]impl.Point
	}{
		{[]int{30, 10}, 0, [][]impl.Point{placesOf(0, 0, 30, 0, 30, 0), placesOf(30, 10, 30, 40)}},
		{[]int{29, 10}, 0, [][]impl.Point{placesOf(0, 0, 29, 0), placesOf(30, 9, 30, 38)}},
		{[]int{31, 10}, 0, [][]impl.Point{placesOf(0, 0, 30, 0, 30, 1), placesOf(30, 11, 30, 40)}},
		{[]int{10, 10}, 0, [][]impl.Point{placesOf(0, 0, 10, 0), placesOf(20, 0, 30, 0, 30, 0), placesOf(30, 10, 30, 20), placesOf(30, 30, 30, 40)}},
		{[]int{40, 50}, 10, [][]impl.Point{placesOf(0, 0, 30, 0, 30, 0)}},
		{[]int{10, 20}, 0, [][]impl.Point{placesOf(0, 0, 10, 0), placesOf(30, 0, 30, 10), placesOf(30, 30, 30, 40)}},
		{[]int{10, 19}, 0, [][]impl.Point{placesOf(0, 0, 10, 0), placesOf(29, 0, 30, 0, 30, 9), placesOf(30, 28, 30, 38)}},
		{[]int{5, 30}, 5, [][]impl.Point{placesOf(30, 0, 30, 5), placesOf(30, 35, 30, 40)}},
		{[]int{40, 10}, 0, [][]impl.Point{placesOf(0, 0, 30, 0, 30, 10), placesOf(30, 20, 30, 40)}},
		{[]int{70, 1}, 0, [][]impl.Point{line}},
		{[]int{69, 1}, 0, [][]impl.Point{placesOf(0, 0, 30, 0, 30, 39)}},
		{[]int{71, 1}, 0, [][]impl.Point{line}},
	} {
		checkDashOf(t, line, c.dashes, c.phase, c.want)
	}
}

func TestDashOfAroundSeveralCorners(t *testing.T) {
	line := placesOf(0, 0, 10, 0, 10, 10, 0, 10, 0, 20)
	for _, c := range []struct {
		dashes []int
		phase  int
		want   [][]impl.Point
	}{
		{[]int{35, 1}, 0, [][]impl.Point{placesOf(0, 0, 10, 0, 10, 10, 0, 10, 0, 15), placesOf(0, 16, 0, 20)}},
		{[]int{25, 5}, 0, [][]impl.Point{placesOf(0, 0, 10, 0, 10, 10, 5, 10), placesOf(0, 10, 0, 20)}},
		{[]int{30, 5}, 0, [][]impl.Point{placesOf(0, 0, 10, 0, 10, 10, 0, 10, 0, 10), placesOf(0, 15, 0, 20)}},
		{[]int{5, 30}, 0, [][]impl.Point{placesOf(0, 0, 5, 0), placesOf(0, 15, 0, 20)}},
		{[]int{5, 30}, 5, [][]impl.Point{placesOf(0, 10, 0, 15)}},
		{[]int{10, 10}, 0, [][]impl.Point{placesOf(0, 0, 10, 0, 10, 0), placesOf(10, 10, 0, 10, 0, 10)}},
		{[]int{10, 10}, 10, [][]impl.Point{placesOf(10, 0, 10, 10, 10, 10), placesOf(0, 10, 0, 20)}},
		{[]int{20000, 1}, 0, [][]impl.Point{line}},
		{[]int{1, 20000}, 0, [][]impl.Point{placesOf(0, 0, 1, 0)}},
		{[]int{1, 20000}, 1, nil},
	} {
		checkDashOf(t, line, c.dashes, c.phase, c.want)
	}
}

// Such a piece is passed over: its point is not put a second time, and no dash goes on along it.
func TestDashOfPiecesOfNoLength(t *testing.T) {
	for _, c := range []struct {
		line   []impl.Point
		dashes []int
		want   [][]impl.Point
	}{
		{placesOf(0, 0, 0, 0, 100, 0), []int{30, 20}, levelParts(0, 30, 50, 80)},
		{placesOf(0, 0, 0, 0, 0, 0, 100, 0), []int{300, 20}, levelParts(0, 100)},
		{placesOf(0, 0, 100, 0, 100, 0), []int{30, 20}, levelParts(0, 30, 50, 80)},
		{placesOf(0, 0, 80, 0, 80, 0, 80, 0), []int{30, 20}, levelParts(0, 30, 50, 80)},
		{placesOf(0, 0, 100, 0, 100, 0), []int{300, 20}, levelParts(0, 100)},
		{placesOf(0, 0, 40, 0, 40, 0, 100, 0), []int{30, 20}, levelParts(0, 30, 50, 80)},
		{placesOf(0, 0, 40, 0, 40, 0, 100, 0), []int{60, 20}, [][]impl.Point{placesOf(0, 0, 40, 0, 60, 0), placesOf(80, 0, 100, 0)}},
		{placesOf(0, 0, 30, 0, 30, 0, 30, 0, 30, 40), []int{30, 10}, [][]impl.Point{placesOf(0, 0, 30, 0, 30, 0), placesOf(30, 10, 30, 40)}},
		{placesOf(0, 0, 30, 0, 30, 0, 30, 40), []int{10, 20}, [][]impl.Point{placesOf(0, 0, 10, 0), placesOf(30, 0, 30, 10), placesOf(30, 30, 30, 40)}},
		{placesOf(0, 0, 30, 0, 30, 0), []int{30, 10}, levelParts(0, 30)},
	} {
		checkDashOf(t, c.line, c.dashes, 0, c.want)
	}
}

func TestDashOfStretchesOfFewerThanTwoPoints(t *testing.T) {
	for _, dashes := range [][]int{{1, 1}, {30, 20}, {20000, 1, 1, 20000}} {
		for phase := range 60 {
			for size := 2; size < 6; size++ {
				checkDashOf(t, slices.Repeat(placesOf(7, -9), size), dashes, phase, nil)
			}
		}
	}
}

// Two points that are the same by the nearest unit are two points all the same.
func TestDashOfStretchesOfTheSamePoint(t *testing.T) {
	checkDashOf(t, placesOf(0, 0, 4, 4), []int{1, 1}, 1, [][]impl.Point{placesOf(1, 1, 2, 2), placesOf(2, 2, 3, 3)})
	checkDashOf(t, placesOf(0, 0, 5, 5), []int{1, 1}, 1, [][]impl.Point{placesOf(1, 1, 1, 1), placesOf(2, 2, 3, 3), placesOf(4, 4, 4, 4)})
}

func TestDashOfSlantedLines(t *testing.T) {
	checkDashOf(t, placesOf(0, 0, 30, 40), []int{10, 5}, 0, [][]impl.Point{placesOf(0, 0, 6, 8), placesOf(9, 12, 15, 20), placesOf(18, 24, 24, 32), placesOf(27, 36, 30, 40)})
	checkDashOf(t, placesOf(30, 40, 0, 0), []int{10, 5}, 12, [][]impl.Point{placesOf(28, 38, 22, 30), placesOf(19, 26, 13, 18), placesOf(10, 14, 4, 6), placesOf(1, 2, 0, 0)})
	checkDashOf(t, placesOf(0, 0, 3, 4, 6, 0), []int{7, 2}, 0, [][]impl.Point{placesOf(0, 0, 3, 4, 4, 2), placesOf(5, 1, 6, 0)})
	checkDashOf(t, placesOf(0, 0, -1, -1, 0, 0), []int{1, 1}, 0, [][]impl.Point{placesOf(0, 0, -1, -1, -1, -1)})
	checkDashOf(t, placesOf(0, 0, -1, -1, 0, 0), []int{1, 1}, 1, [][]impl.Point{placesOf(-1, -1, 0, 0)})
}

var manyDashes = [][]int{
	{1, 1}, {1, 2}, {2, 1}, {5, 5}, {10, 3}, {3, 10}, {4, 1, 2, 3}, {5, 5, 5, 5}, {1, 1, 5, 1}, {12, 1, 1, 12}, {100, 1}, {1, 100}, {20000, 20000},
}

// All lists of two to four points of five, some of them the same.
func shortLines() [][]impl.Point {
	few := placesOf(0, 0, 5, 0, 5, 10, 2, 4, -3, -7)
	lists := [][]impl.Point{{}}
	for from := 0; from < len(lists); from++ {
		for _, p := range few {
			if len(lists[from]) < 4 {
				lists = append(lists, append(slices.Clone(lists[from]), p))
			}
		}
	}
	return slices.DeleteFunc(lists, func(list []impl.Point) bool { return len(list) < 2 })
}

func TestDashOfShortLines(t *testing.T) {
	for _, line := range shortLines() {
		for _, dashes := range manyDashes {
			for _, phase := range []int{0, 1, 2, 3, 5, 6, 7, 10, 13, 20, 101, 20000} {
				checkDashOf(t, line, dashes, phase, dashesByWay(line, dashes, phase))
			}
		}
	}
}

func TestDashOfLongLines(t *testing.T) {
	for _, size := range []int{2, 3, 6} {
		for _, line := range rightLists(size) {
			for _, dashes := range [][]int{{20000, 20000}, {19999, 5000, 7000, 20000}} {
				for _, phase := range []int{0, 12345, 20000} {
					checkDashOf(t, line, dashes, phase, dashesByWay(line, dashes, phase))
				}
			}
		}
	}
	checkDashOf(t, dots(300), []int{70, 3, 5, 40}, 99, dashesByWay(dots(300), []int{70, 3, 5, 40}, 99))
}

// Each end of a stretch is a point of a piece, and what is between its ends are points of the line.
func TestPromise9DashesBeginAndEndOnTheLine(t *testing.T) {
	for _, line := range shortLines() {
		onLine := map[impl.Point]bool{}
		for i, b := range line[1:] {
			length := impl.LengthOf(line[i], b)
			for at := range length + 1 {
				onLine[impl.PointAt(line[i], b, at, length)] = true
			}
		}
		for _, dashes := range manyDashes {
			for _, stretch := range impl.DashOf(line, dashes, 3) {
				first, last := stretch[0], stretch[len(stretch)-1]
				if !onLine[first] || !onLine[last] {
					t.Errorf("DashOf(%v, %v, 3): %v ends off the line", line, dashes, stretch)
				}
				for _, p := range stretch[1 : len(stretch)-1] {
					if !slices.Contains(line, p) {
						t.Errorf("DashOf(%v, %v, 3): %v of %v is no corner", line, dashes, p, stretch)
					}
				}
			}
		}
	}
}

// Lines that only go right and down, where how far a point is along the line is the sum of its numbers.
func stairs() [][]impl.Point {
	lines := [][]impl.Point{}
	for _, steps := range [][]int{{1}, {40}, {10, 10}, {5, 5, 5, 5, 5}, {1, 1, 1, 1, 1, 1}, {0, 7, 0, 12, 0}, {0, 0, 30}, {30, 0, 0}, {17, 3, 0, 29, 1, 11}} {
		at := impl.Point{}
		line := []impl.Point{at}
		for i, step := range steps {
			if i%2 == 0 {
				at.X += step
			} else {
				at.Y += step
			}
			line = append(line, at)
		}
		lines = append(lines, line)
	}
	return lines
}

// Unit by unit along the line: how many units are drawn, how many left out, and which.
func TestPromise9DashesAndGapsAreAsLongAsTheLine(t *testing.T) {
	for _, line := range stairs() {
		for _, dashes := range manyDashes {
			for phase := range 30 {
				end := line[len(line)-1]
				want := unitsOf(dashes, phase, end.X+end.Y)
				if got := unitsDrawn(t, impl.DashOf(line, dashes, phase), end.X+end.Y); !slices.Equal(got, want) {
					t.Errorf("DashOf(%v, %v, %d) draws %v, want %v", line, dashes, phase, got, want)
				}
			}
		}
	}
}

func unitsOf(dashes []int, phase int, whole int) []bool {
	round := []bool{}
	for k, dash := range dashes {
		round = append(round, slices.Repeat([]bool{k%2 == 0}, dash)...)
	}
	units := []bool{}
	for unit := range whole {
		units = append(units, round[(phase+unit)%len(round)])
	}
	return units
}

func unitsDrawn(t *testing.T, stretches [][]impl.Point, whole int) []bool {
	t.Helper()
	units := make([]bool, whole)
	for _, stretch := range stretches {
		first, last := stretch[0], stretch[len(stretch)-1]
		long := 0
		for i, b := range stretch[1:] {
			long += impl.LengthOf(stretch[i], b)
		}
		if long != last.X+last.Y-first.X-first.Y {
			t.Errorf("%v is %d long, which is not the line's way between its ends", stretch, long)
		}
		for unit := first.X + first.Y; unit < last.X+last.Y; unit++ {
			if units[unit] {
				t.Errorf("%v: unit %d is drawn a second time", stretches, unit)
			}
			units[unit] = true
		}
	}
	return units
}

func TestDashOfAnswersInNewMemory(t *testing.T) {
	for _, dashes := range [][]int{{}, {30, 20}, {31, 1, 200, 1}, {20000, 1}} {
		points := append(dots(12), impl.Point{X: 900, Y: 901})
		numbers := append(slices.Clone(dashes), 77, 78)
		roomOfPoints, roomOfNumbers := slices.Clone(points), slices.Clone(numbers)
		line, list := points[:12], numbers[:len(dashes)]
		want := [][]impl.Point{slices.Clone(line)}
		if len(dashes) > 0 {
			want = dashesByWay(line, dashes, 10)
		}
		checkNoSharedRoom(t, impl.DashOf(line, list, 10), want)
		if !slices.Equal(points, roomOfPoints) || !slices.Equal(numbers, roomOfNumbers) {
			t.Errorf("the room of the lists became %v, %v", points, numbers)
		}
		again := impl.DashOf(line, list, 10)
		for i := range points {
			points[i] = impl.Point{X: -1, Y: -1}
		}
		clear(numbers)
		if !sameLines(again, want) {
			t.Errorf("the answer became %v, want %v", again, want)
		}
	}
}
