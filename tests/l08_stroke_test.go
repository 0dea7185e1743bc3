package tests

import (
	"math"
	"math/big"
	"runtime"
	"slices"
	"testing"

	"loop.example/g00190/impl"
)

var wrongWidths = []int{math.MinInt, math.MinInt + 1, -2048, -2, -1, 0, 2049, 2050, 4096, 1 << 32, math.MaxInt - 1, math.MaxInt}

var rightWidths = []int{1, 2, 3, 4, 5, 7, 10, 255, 256, 257, 1000, 2047, 2048}

func lengthByLibrary(a impl.Point, b impl.Point) int {
	square := func(n int) *big.Int {
		return new(big.Int).Exp(big.NewInt(int64(n)), big.NewInt(2), nil)
	}
	sum := new(big.Int).Add(square(a.X-b.X), square(a.Y-b.Y))
	return int(sum.Sqrt(sum).Int64())
}

// Of right points that are not the same, and of a right width.
func sideByLibrary(a impl.Point, b impl.Point, width int) impl.Point {
	by := 2 * lengthByLibrary(a, b)
	return impl.Point{X: roundByLibrary((a.Y-b.Y)*width, by), Y: roundByLibrary((b.X-a.X)*width, by)}
}

func cornersByLibrary(a impl.Point, b impl.Point, width int) []impl.Point {
	s := sideByLibrary(a, b, width)
	return placesOf(a.X+s.X, a.Y+s.Y, b.X+s.X, b.Y+s.Y, b.X-s.X, b.Y-s.Y, a.X-s.X, a.Y-s.Y)
}

// Of right lines and a right width: each list from its second point on.
func strokeByLibrary(lines [][]impl.Point, width int) [][]impl.Point {
	parts := [][]impl.Point{}
	for _, line := range lines {
		for i, p := range line {
			if i > 0 && p != line[i-1] {
				parts = append(parts, cornersByLibrary(line[i-1], p, width))
			}
			if i > 0 && i < len(line)-1 {
				left, top := p.X-width/2, p.Y-width/2
				parts = append(parts, placesOf(left, top, left+width, top, left+width, top+width, left, top+width))
			}
		}
	}
	return parts
}

func checkLengthOf(t *testing.T, a impl.Point, b impl.Point, want int) {
	t.Helper()
	if got := impl.LengthOf(a, b); got != want {
		t.Errorf("LengthOf(%v, %v) = %d, want %d", a, b, got, want)
	}
}

func checkSideOf(t *testing.T, a impl.Point, b impl.Point, width int, want impl.Point) {
	t.Helper()
	if got := impl.SideOf(a, b, width); got != want {
		t.Errorf("SideOf(%v, %v, %d) = %v, want %v", a, b, width, got, want)
	}
}

func checkQuadOf(t *testing.T, a impl.Point, b impl.Point, width int, want []impl.Point) {
	t.Helper()
	if got := impl.QuadOf(a, b, width); !slices.Equal(got, want) {
		t.Errorf("QuadOf(%v, %v, %d) = %v, want %v", a, b, width, got, want)
	}
}

func copyOfLines(lines [][]impl.Point) [][]impl.Point {
	copied := [][]impl.Point{}
	for _, line := range lines {
		copied = append(copied, slices.Clone(line))
	}
	return copied
}

func checkStrokeOf(t *testing.T, lines [][]impl.Point, width int, want [][]impl.Point) {
	t.Helper()
	before := copyOfLines(lines)
	if got := impl.StrokeOf(lines, width); !sameLines(got, want) {
		t.Errorf("StrokeOf(%v, %d) = %v, want %v", lines, width, got, want)
	}
	if !sameLines(lines, before) {
		t.Errorf("StrokeOf(%v, %d) wrote into its lines: %v", before, width, lines)
	}
}

// Pairs of right points: those of rightLists, from each corner of the limit to each, and all short ways.
func rightPairs() [][]impl.Point {
	pairs := rightLists(2)
	corners := placesOf(impl.Far, impl.Far, impl.Far, -impl.Far, -impl.Far, impl.Far, -impl.Far, -impl.Far, 0, impl.Far, -impl.Far, 0)
	for _, a := range corners {
		for _, b := range corners {
			pairs = append(pairs, []impl.Point{a, b})
		}
	}
	for _, to := range pointsWithin(-6, 6) {
		pairs = append(pairs, []impl.Point{{}, to}, []impl.Point{{X: 40, Y: -7}, {X: 40 + to.X, Y: to.Y - 7}})
	}
	return pairs
}

func TestStrokeConstants(t *testing.T) {
	if impl.MaxWidth != 2048 {
		t.Errorf("MaxWidth %d, want 2048", impl.MaxWidth)
	}
}

func TestLengthOfWrittenOut(t *testing.T) {
	for _, c := range []struct{ x, y, want int }{
		{0, 0, 0}, {1, 0, 1}, {0, 1, 1}, {7, 0, 7}, {0, 256, 256},
		{3, 4, 5}, {30, 40, 50}, {5, 12, 13}, {8, 15, 17}, {15510000, 5600000, 16490000}, {13770000, 9360000, 16650000},
		{1, 1, 1}, {4, 1, 4}, {50, 1, 50}, {16777216, 1, 16777216}, {7, 4, 8}, {8, 9, 12},
		{2, 2, 2}, {8, 4, 8}, {12, 12, 16}, {16652252, 2044028, 16777232},
		{2, 1, 2}, {3, 3, 4}, {10, 10, 14}, {100, 7, 100}, {16777216, 16777216, 23726566}, {16777215, 16777216, 23726565},
	} {
		for _, x := range []int{c.x, -c.x} {
			for _, y := range []int{c.y, -c.y} {
				a := impl.Point{X: -x / 2, Y: -y / 2}
				b := impl.Point{X: a.X + x, Y: a.Y + y}
				checkLengthOf(t, a, b, c.want)
				checkLengthOf(t, b, a, c.want)
				checkLengthOf(t, impl.Point{X: a.Y, Y: a.X}, impl.Point{X: b.Y, Y: b.X}, c.want)
			}
		}
	}
}

func TestLengthOfTheSamePoint(t *testing.T) {
	for _, p := range rightPoints() {
		checkLengthOf(t, p, p, 0)
	}
}

func TestLengthOfPairs(t *testing.T) {
	for _, pair := range rightPairs() {
		want := lengthByLibrary(pair[0], pair[1])
		checkLengthOf(t, pair[0], pair[1], want)
		checkLengthOf(t, pair[1], pair[0], want)
	}
}

// Each number of each point by itself, at the limit and past it.
func TestLengthOfAtTheLimitsOfPoints(t *testing.T) {
	other := impl.Point{X: 100, Y: 200}
	for _, n := range farAndPast {
		for _, p := range []impl.Point{{X: n, Y: 7}, {X: 7, Y: n}} {
			want := 0
			if withinFar(n) {
				want = lengthByLibrary(p, other)
			}
			checkLengthOf(t, p, other, want)
			checkLengthOf(t, other, p, want)
		}
	}
	for _, wrong := range wrongPoints() {
		checkLengthOf(t, wrong, wrong, 0)
		checkLengthOf(t, wrong, impl.Point{X: -wrong.X, Y: wrong.Y}, 0)
	}
}

func TestSideOfWrittenOut(t *testing.T) {
	for _, c := range []struct{ x, y, width, sideX, sideY int }{
		{10, 0, 4, 0, 2}, {-10, 0, 4, 0, -2}, {0, 10, 4, -2, 0}, {0, -10, 4, 2, 0},
		{1, 0, 2048, 0, 1024}, {-1, 0, 2048, 0, -1024}, {0, 1, 2048, -1024, 0}, {0, -1, 2048, 1024, 0},
		{30, 40, 10, -4, 3}, {-30, 40, 10, -4, -3}, {-30, -40, 10, 4, -3}, {30, -40, 10, 4, 3},
		{40, 30, 10, -3, 4}, {-40, 30, 10, -3, -4}, {-40, -30, 10, 3, -4}, {40, -30, 10, 3, 4},
		{3, 4, 1, 0, 0}, {3, 4, 2, -1, 1}, {3, 4, 7, -3, 2}, {3, 4, 2048, -819, 614}, {3, 4, 2047, -819, 614},
		{1, 1, 2, -1, 1}, {1, 1, 2048, -1024, 1024}, {3, 3, 8, -3, 3}, {2, 1, 2048, -512, 1024},
		{16777216, 16777216, 2048, -724, 724}, {-16777216, 16777216, 2048, -724, -724}, {16777216, 0, 2048, 0, 1024}, {16777216, 1, 2048, 0, 1024},
	} {
		a := impl.Point{X: -c.x / 2, Y: -c.y / 2}
		checkSideOf(t, a, impl.Point{X: a.X + c.x, Y: a.Y + c.y}, c.width, impl.Point{X: c.sideX, Y: c.sideY})
	}
}

// Just between two units the greater one counts, above 0 and below.
func TestSideOfBetweenTwoUnits(t *testing.T) {
	for _, c := range []struct{ x, y, width, sideX, sideY int }{
		{10, 0, 1, 0, 1}, {-10, 0, 1, 0, 0}, {0, 10, 1, 0, 0}, {0, -10, 1, 1, 0},
		{10, 0, 3, 0, 2}, {-10, 0, 3, 0, -1}, {0, 10, 3, -1, 0}, {0, -10, 3, 2, 0},
		{10, 0, 2047, 0, 1024}, {-10, 0, 2047, 0, -1023}, {0, 10, 2047, -1023, 0}, {0, -10, 2047, 1024, 0},
		{3, 4, 5, -2, 2}, {-3, 4, 5, -2, -1}, {-3, -4, 5, 2, -1}, {3, -4, 5, 2, 2},
		{4, 3, 5, -1, 2}, {4, -3, 5, 2, 2}, {-4, 3, 5, -1, -2}, {-4, -3, 5, 2, -2},
		{1, 1, 1, 0, 1}, {-1, -1, 1, 1, 0}, {1, 1, 5, -2, 3}, {-1, -1, 5, 3, -2},
		{6, 8, 15, -6, 5}, {-6, -8, 15, 6, -4},
	} {
		from := impl.Point{X: 17, Y: -90}
		checkSideOf(t, from, impl.Point{X: 17 + c.x, Y: c.y - 90}, c.width, impl.Point{X: c.sideX, Y: c.sideY})
	}
}

func TestSideOfPairs(t *testing.T) {
	for _, pair := range rightPairs() {
		for _, width := range rightWidths {
			want := impl.Point{}
			if pair[0] != pair[1] {
				want = sideByLibrary(pair[0], pair[1], width)
			}
			checkSideOf(t, pair[0], pair[1], width, want)
		}
	}
}

func TestStrokesOfNoLength(t *testing.T) {
	for _, p := range append(rightPoints(), wrongPoints()...) {
		for _, width := range append(slices.Clone(rightWidths), wrongWidths...) {
			checkSideOf(t, p, p, width, impl.Point{})
			checkQuadOf(t, p, p, width, nil)
		}
	}
}

func TestStrokesOfWrongWidths(t *testing.T) {
	for _, width := range wrongWidths {
		for _, pair := range rightPairs() {
			checkSideOf(t, pair[0], pair[1], width, impl.Point{})
			checkQuadOf(t, pair[0], pair[1], width, nil)
		}
		for _, lines := range [][][]impl.Point{nil, {}, {nil}, {placesOf(1, 2)}, {placesOf(0, 0, 30, 40)}, {placesOf(0, 0, 0, 0, 0, 0)}, {dots(5), dots(3)}} {
			checkStrokeOf(t, lines, width, nil)
		}
	}
}

// Each number of each point by itself, at the limit and past it.
func TestStrokesAtTheLimitsOfPoints(t *testing.T) {
	for _, n := range farAndPast {
		for _, p := range []impl.Point{{X: n, Y: 7}, {X: 7, Y: n}} {
			for _, pair := range [][2]impl.Point{{p, {X: 100, Y: 200}}, {{X: 100, Y: 200}, p}} {
				checkStrokeWith(t, pair[0], pair[1], withinFar(n))
			}
		}
	}
	for _, wrong := range wrongPoints() {
		checkStrokeWith(t, wrong, wrong, false)
		checkStrokeWith(t, wrong, impl.Point{X: -wrong.X, Y: wrong.Y}, false)
	}
}

func checkStrokeWith(t *testing.T, a impl.Point, b impl.Point, right bool) {
	t.Helper()
	for _, width := range rightWidths {
		side, corners, stroke := impl.Point{}, []impl.Point(nil), [][]impl.Point(nil)
		lines := [][]impl.Point{{a, b, {X: -3, Y: 9}}}
		if right {
			side, corners, stroke = sideByLibrary(a, b, width), cornersByLibrary(a, b, width), strokeByLibrary(lines, width)
		}
		checkSideOf(t, a, b, width, side)
		checkQuadOf(t, a, b, width, corners)
		checkStrokeOf(t, lines, width, stroke)
	}
}

func TestQuadOfWrittenOut(t *testing.T) {
	for _, c := range []struct {
		line  []impl.Point
		width int
		want  []impl.Point
	}{
		{placesOf(0, 0, 30, 40), 10, placesOf(-4, 3, 26, 43, 34, 37, 4, -3)},
		{placesOf(30, 40, 0, 0), 10, placesOf(34, 37, 4, -3, -4, 3, 26, 43)},
		{placesOf(5, 7, 15, 7), 4, placesOf(5, 9, 15, 9, 15, 5, 5, 5)},
		{placesOf(15, 7, 5, 7), 4, placesOf(15, 5, 5, 5, 5, 9, 15, 9)},
		{placesOf(5, 7, 5, 17), 4, placesOf(3, 7, 3, 17, 7, 17, 7, 7)},
		{placesOf(5, 17, 5, 7), 4, placesOf(7, 17, 7, 7, 3, 7, 3, 17)},
		{placesOf(0, 0, 10, 0), 3, placesOf(0, 2, 10, 2, 10, -2, 0, -2)},
		{placesOf(10, 0, 0, 0), 3, placesOf(10, -1, 0, -1, 0, 1, 10, 1)},
		{placesOf(0, 0, -3, 4), 5, placesOf(-2, -1, -5, 3, -1, 5, 2, 1)},
		{placesOf(0, 0, 1, 0), 2048, placesOf(0, 1024, 1, 1024, 1, -1024, 0, -1024)},
	} {
		checkQuadOf(t, c.line[0], c.line[1], c.width, c.want)
	}
}

// A line that has a length keeps its four corners, also where its side is nothing.
func TestQuadOfThinLines(t *testing.T) {
	checkQuadOf(t, impl.Point{}, impl.Point{X: -1}, 1, placesOf(0, 0, -1, 0, -1, 0, 0, 0))
	checkQuadOf(t, impl.Point{X: 5, Y: 5}, impl.Point{X: 8, Y: 9}, 1, placesOf(5, 5, 8, 9, 8, 9, 5, 5))
	checkStrokeOf(t, [][]impl.Point{placesOf(5, 5, 8, 9)}, 1, [][]impl.Point{placesOf(5, 5, 8, 9, 8, 9, 5, 5)})
}

func TestQuadOfCornersPastTheLimit(t *testing.T) {
	const far = impl.Far
	checkQuadOf(t, impl.Point{X: -far, Y: far}, impl.Point{X: far, Y: far}, 2048, placesOf(-far, far+1024, far, far+1024, far, far-1024, -far, far-1024))
	checkQuadOf(t, impl.Point{X: far, Y: -far}, impl.Point{X: -far, Y: -far}, 2048, placesOf(far, -far-1024, -far, -far-1024, -far, -far+1024, far, -far+1024))
	checkQuadOf(t, impl.Point{X: far, Y: far}, impl.Point{X: far, Y: -far}, 2, placesOf(far+1, far, far+1, -far, far-1, -far, far-1, far))
	checkQuadOf(t, impl.Point{X: -far, Y: -far}, impl.Point{X: -far, Y: far}, 2, placesOf(-far-1, -far, -far-1, far, -far+1, far, -far+1, -far))
	checkQuadOf(t, impl.Point{X: -far, Y: -far}, impl.Point{X: far, Y: far}, 2048, placesOf(-far-724, -far+724, far-724, far+724, far+724, far-724, -far+724, -far-724))
}

func TestQuadOfPairs(t *testing.T) {
	for _, pair := range rightPairs() {
		for _, width := range rightWidths {
			if pair[0] != pair[1] {
				checkQuadOf(t, pair[0], pair[1], width, cornersByLibrary(pair[0], pair[1], width))
			}
		}
	}
}

func TestQuadOfAnswersInNewMemory(t *testing.T) {
	a, b := impl.Point{X: 3, Y: 4}, impl.Point{X: 33, Y: 44}
	want := cornersByLibrary(a, b, 10)
	checkNoSharedRoom(t, [][]impl.Point{impl.QuadOf(a, b, 10), impl.QuadOf(a, b, 10)}, [][]impl.Point{want, want})
	checkQuadOf(t, a, b, 10, want)
}

// The side, held against the line, is a quarter but for half a unit each way, turned to the left edge, and half the width long.
func TestPromise8SidesAreTurnedByAQuarter(t *testing.T) {
	for _, pair := range rightPairs() {
		x, y := pair[1].X-pair[0].X, pair[1].Y-pair[0].Y
		length := impl.LengthOf(pair[0], pair[1])
		for _, width := range rightWidths {
			side := impl.SideOf(pair[0], pair[1], width)
			if along := side.X*x + side.Y*y; 2*max(along, -along) > max(x, -x)+max(y, -y) {
				t.Errorf("SideOf(%v, %v, %d) = %v leans along the line", pair[0], pair[1], width, side)
			}
			offX, offY := 2*length*side.X+y*width, 2*length*side.Y-x*width
			if max(offX, -offX, offY, -offY) > length {
				t.Errorf("SideOf(%v, %v, %d) = %v is more than half a unit away", pair[0], pair[1], width, side)
			}
		}
	}
}

// Each stretch that has a length has its four corners in the stroke, whatever line it is in.
func TestPromise8EachStretchHasItsFourCorners(t *testing.T) {
	for _, lines := range manyLines() {
		for _, width := range []int{1, 2, 5, 256, 2048} {
			stroke := impl.StrokeOf(lines, width)
			for _, part := range stroke {
				if len(part) != 4 {
					t.Errorf("StrokeOf(%v, %d): %v has not four corners", lines, width, part)
				}
			}
			for _, line := range lines {
				for i := 1; i < len(line); i++ {
					checkHasStretch(t, stroke, line[i-1], line[i], width)
				}
			}
		}
	}
}

func checkHasStretch(t *testing.T, stroke [][]impl.Point, a impl.Point, b impl.Point, width int) {
	t.Helper()
	if a == b {
		return
	}
	want := cornersByLibrary(a, b, width)
	if !slices.ContainsFunc(stroke, func(part []impl.Point) bool { return slices.Equal(part, want) }) {
		t.Errorf("the stroke of width %d has not the corners %v from %v to %v", width, want, a, b)
	}
}

func TestStrokeOfFewPoints(t *testing.T) {
	for _, width := range rightWidths {
		for _, lines := range [][][]impl.Point{nil, {}, {nil}, {{}}, {{}, nil, {}}, {placesOf(3, 4)}, {placesOf(3, 4), placesOf(3, 4), {}, placesOf(5, 6)}, {placesOf(impl.Far, -impl.Far)}} {
			checkStrokeOf(t, lines, width, nil)
		}
	}
}

func TestStrokeOfWrittenOut(t *testing.T) {
	for _, c := range []struct {
		lines [][]impl.Point
		width int
		want  [][]impl.Point
	}{
		{[][]impl.Point{placesOf(0, 0, 30, 40)}, 10, [][]impl.Point{placesOf(-4, 3, 26, 43, 34, 37, 4, -3)}},
		{[][]impl.Point{placesOf(0, 0, 30, 40, 0, 0)}, 10, [][]impl.Point{
			placesOf(-4, 3, 26, 43, 34, 37, 4, -3), placesOf(25, 35, 35, 35, 35, 45, 25, 45), placesOf(34, 37, 4, -3, -4, 3, 26, 43)}},
		{[][]impl.Point{placesOf(0, 0, 10, 0, 10, 10, 0, 10)}, 4, [][]impl.Point{
			placesOf(0, 2, 10, 2, 10, -2, 0, -2), placesOf(8, -2, 12, -2, 12, 2, 8, 2),
			placesOf(8, 0, 8, 10, 12, 10, 12, 0), placesOf(8, 8, 12, 8, 12, 12, 8, 12),
			placesOf(10, 8, 0, 8, 0, 12, 10, 12)}},
		{[][]impl.Point{placesOf(0, 0, 10, 0, 20, 0)}, 5, [][]impl.Point{
			placesOf(0, 3, 10, 3, 10, -3, 0, -3), placesOf(8, -2, 13, -2, 13, 3, 8, 3), placesOf(10, 3, 20, 3, 20, -3, 10, -3)}},
		{[][]impl.Point{placesOf(0, 0, -10, 0, -20, 0)}, 1, [][]impl.Point{
			placesOf(0, 0, -10, 0, -10, 0, 0, 0), placesOf(-10, 0, -9, 0, -9, 1, -10, 1), placesOf(-10, 0, -20, 0, -20, 0, -10, 0)}},
		{[][]impl.Point{placesOf(0, 0, 10, 0), placesOf(0, 9), placesOf(5, 7, 5, 17)}, 4, [][]impl.Point{
			placesOf(0, 2, 10, 2, 10, -2, 0, -2), placesOf(3, 7, 3, 17, 7, 17, 7, 7)}},
		{[][]impl.Point{placesOf(0, 0, 10, 0, 10, 0), {}, placesOf(5, 7, 5, 7, 5, 17)}, 4, [][]impl.Point{
			placesOf(0, 2, 10, 2, 10, -2, 0, -2), placesOf(8, -2, 12, -2, 12, 2, 8, 2),
			placesOf(3, 5, 7, 5, 7, 9, 3, 9), placesOf(3, 7, 3, 17, 7, 17, 7, 7)}},
	} {
		checkStrokeOf(t, c.lines, c.width, c.want)
	}
}

// Half the width of a square is taken down, above 0 and below; the square is as wide as the line all the same.
func TestStrokeOfSquares(t *testing.T) {
	for _, c := range []struct{ width, less int }{{1, 0}, {2, 1}, {3, 1}, {4, 2}, {5, 2}, {255, 127}, {256, 128}, {2047, 1023}, {2048, 1024}} {
		for _, p := range placesOf(0, 0, 7, -7, -8, 9, impl.Far, impl.Far, -impl.Far, -impl.Far) {
			x, y := p.X-c.less, p.Y-c.less
			want := placesOf(x, y, x+c.width, y, x+c.width, y+c.width, x, y+c.width)
			checkStrokeOf(t, [][]impl.Point{{p, p, p}}, c.width, [][]impl.Point{want})
			checkStrokeOf(t, [][]impl.Point{{p, p}, {p, p, p, p}}, c.width, [][]impl.Point{want, want})
		}
	}
}

// Between two points that are the same are no corners; a square stands around each point that is neither first nor last.
func TestStrokeOfPointsThatAreTheSame(t *testing.T) {
	first := placesOf(0, 2, 10, 2, 10, -2, 0, -2)
	second := placesOf(10, 2, 20, 2, 20, -2, 10, -2)
	atBegin, between, atEnd := placesOf(-2, -2, 2, -2, 2, 2, -2, 2), placesOf(8, -2, 12, -2, 12, 2, 8, 2), placesOf(18, -2, 22, -2, 22, 2, 18, 2)
	for _, c := range []struct {
		line []impl.Point
		want [][]impl.Point
	}{
		{placesOf(0, 0, 10, 0, 20, 0), [][]impl.Point{first, between, second}},
		{placesOf(0, 0, 0, 0, 10, 0, 20, 0), [][]impl.Point{atBegin, first, between, second}},
		{placesOf(0, 0, 0, 0, 0, 0, 10, 0, 20, 0), [][]impl.Point{atBegin, atBegin, first, between, second}},
		{placesOf(0, 0, 10, 0, 10, 0, 20, 0), [][]impl.Point{first, between, between, second}},
		{placesOf(0, 0, 10, 0, 10, 0, 10, 0, 20, 0), [][]impl.Point{first, between, between, between, second}},
		{placesOf(0, 0, 10, 0, 20, 0, 20, 0), [][]impl.Point{first, between, second, atEnd}},
		{placesOf(0, 0, 10, 0, 20, 0, 20, 0, 20, 0), [][]impl.Point{first, between, second, atEnd, atEnd}},
		{placesOf(0, 0, 0, 0), nil},
		{placesOf(0, 0, 0, 0, 0, 0), [][]impl.Point{atBegin}},
		{placesOf(0, 0, 0, 0, 0, 0, 0, 0), [][]impl.Point{atBegin, atBegin}},
		{placesOf(0, 0, 0, 0, 10, 0), [][]impl.Point{atBegin, first}},
		{placesOf(10, 0, 20, 0, 20, 0), [][]impl.Point{second, atEnd}},
	} {
		checkStrokeOf(t, [][]impl.Point{c.line}, 4, c.want)
		checkStrokeOf(t, [][]impl.Point{c.line, nil, c.line}, 4, slices.Concat(c.want, c.want))
	}
}

// All lists of up to five points of three, and lists of many points, alone and one behind the other.
func manyLines() [][][]impl.Point {
	few := placesOf(0, 0, 5, 9, -impl.Far, impl.Far)
	lists := [][]impl.Point{{}}
	for from := 0; from < len(lists); from++ {
		for _, p := range few {
			if len(lists[from]) < 5 {
				lists = append(lists, append(slices.Clone(lists[from]), p))
			}
		}
	}
	lists = append(lists, rightLists(7)[:60]...)
	many := [][][]impl.Point{{dots(1000)}, lists[:30]}
	for i, list := range lists {
		many = append(many, [][]impl.Point{list}, [][]impl.Point{list, lists[(7*i+3)%len(lists)]})
	}
	return many
}

func TestStrokeOfManyLines(t *testing.T) {
	for _, lines := range manyLines() {
		for _, width := range []int{1, 2, 5, 256, 2047, 2048} {
			checkStrokeOf(t, lines, width, strokeByLibrary(lines, width))
		}
	}
}

// One point that is not right, at any place of any list, leaves nothing of all lists.
func TestStrokeOfOneWrongPoint(t *testing.T) {
	for _, wrong := range wrongPoints() {
		for list, size := range []int{1, 2, 5, 3} {
			for place := range size {
				lines := [][]impl.Point{dots(1), dots(2), dots(5), dots(3), {}}
				checkStrokeOf(t, lines, 2048, strokeByLibrary(lines, 2048))
				lines[list][place] = wrong
				checkStrokeOf(t, lines, 2048, nil)
				checkStrokeOf(t, lines, 1, nil)
			}
		}
		checkStrokeOf(t, [][]impl.Point{{wrong}}, 10, nil)
		checkStrokeOf(t, [][]impl.Point{{wrong, wrong, wrong}}, 10, nil)
	}
}

func TestStrokeOfAnswersInNewMemory(t *testing.T) {
	room := append(dots(9), impl.Point{X: 900, Y: 901})
	before := slices.Clone(room)
	lines := [][]impl.Point{room[:4], room[2:6], room[5:9], {{X: 1}, {X: 1}, {X: 1}, {X: 1}}, room[:4]}
	want := strokeByLibrary(lines, 5)
	checkNoSharedRoom(t, impl.StrokeOf(lines, 5), want)
	if !slices.Equal(room, before) {
		t.Errorf("the room of the lines became %v, want %v", room, before)
	}
	again := impl.StrokeOf(lines, 5)
	for i := range room {
		room[i] = impl.Point{X: -1, Y: -1}
	}
	clear(lines)
	if !sameLines(again, want) {
		t.Errorf("the answer became %v, want %v", again, want)
	}
}

// None that was started by a call goes on for good when the call has answered.
func TestStrokeOfLeavesNobodyWaiting(t *testing.T) {
	before := runtime.NumGoroutine()
	for i := range 200 {
		lines := [][]impl.Point{dots(i), {{X: 5, Y: 5}, {X: 5, Y: 5}}, dots(3)}
		impl.StrokeOf(lines, 1+i)
		impl.StrokeOf(lines, 0)
		impl.StrokeOf(append(lines, wrongPoints()), 1+i)
	}
	for range 100000 {
		if runtime.NumGoroutine() <= before {
			return
		}
		runtime.Gosched()
	}
	t.Errorf("%d are there, %d were ahead", runtime.NumGoroutine(), before)
}
