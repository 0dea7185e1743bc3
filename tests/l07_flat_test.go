package tests

import (
	"math"
	"math/big"
	"slices"
	"testing"

	"loop.example/g00190/impl"
)

// Between a and b, so many parts of the whole way.
func onTheWay(a *big.Rat, b *big.Rat, parts int, whole int) *big.Rat {
	step := new(big.Rat).Sub(b, a)
	step.Mul(step, big.NewRat(int64(parts), int64(whole)))
	return step.Add(step, a)
}

// A curve cut again and again between its points, and what is left to the nearest, the greater of two.
func cutAgain(list []int, parts int, whole int) int {
	rest := []*big.Rat{}
	for _, n := range list {
		rest = append(rest, big.NewRat(int64(n), 1))
	}
	for len(rest) > 1 {
		for i := range rest[1:] {
			rest[i] = onTheWay(rest[i], rest[i+1], parts, whole)
		}
		rest = rest[:len(rest)-1]
	}
	half := new(big.Rat).Add(rest[0], big.NewRat(1, 2))
	down, _ := new(big.Int).DivMod(half.Num(), half.Denom(), new(big.Int))
	return int(down.Int64())
}

func curveByCuts(points []impl.Point, i int, steps int) impl.Point {
	xs, ys := []int{}, []int{}
	for _, p := range points {
		xs, ys = append(xs, p.X), append(ys, p.Y)
	}
	i = max(0, min(i, steps))
	return impl.Point{X: cutAgain(xs, i, steps), Y: cutAgain(ys, i, steps)}
}

func linesByCuts(p impl.Path) [][]impl.Point {
	lines := [][]impl.Point{}
	line := []impl.Point{}
	ends := func() {
		if len(line) > 0 {
			lines = append(lines, line)
		}
		line = []impl.Point{}
	}
	at := 0
	for _, verb := range p.Verbs {
		taken := pointsOf([]int{verb})
		switch {
		case verb == impl.MoveTo:
			ends()
			line = append(line, p.Points[at])
		case verb == impl.LineTo:
			line = append(line, p.Points[at])
		case verb == impl.Close && line[0] != line[len(line)-1]:
			line = append(line, line[0])
		case verb != impl.Close:
			steps := map[int]int{impl.QuadTo: 4, impl.CubicTo: 8}[verb]
			for i := 1; i <= steps; i++ {
				line = append(line, curveByCuts(p.Points[at-1:at+taken], i, steps))
			}
		}
		at += taken
	}
	ends()
	return lines
}

func sameLines(a [][]impl.Point, b [][]impl.Point) bool {
	return slices.EqualFunc(a, b, slices.Equal[[]impl.Point])
}

// A path by its text, which must be one.
func pathOf(t *testing.T, text string) impl.Path {
	t.Helper()
	p, ok := impl.ParsePath(text)
	if !ok {
		t.Fatalf("ParsePath(%q) refused", text)
	}
	return p
}

// Points by their numbers, two and two.
func placesOf(numbers ...int) []impl.Point {
	list := []impl.Point{}
	for i := 0; i+1 < len(numbers); i += 2 {
		list = append(list, impl.Point{X: numbers[i], Y: numbers[i+1]})
	}
	return list
}

func quadAt(points []impl.Point, i int) impl.Point {
	return impl.QuadAt(points[0], points[1], points[2], i)
}

func cubicAt(points []impl.Point, i int) impl.Point {
	return impl.CubicAt(points[0], points[1], points[2], points[3], i)
}

func checkQuadAt(t *testing.T, points []impl.Point, i int, want impl.Point) {
	t.Helper()
	if got := quadAt(points, i); got != want {
		t.Errorf("QuadAt(%v, %d) = %v, want %v", points, i, got, want)
	}
}

func checkCubicAt(t *testing.T, points []impl.Point, i int, want impl.Point) {
	t.Helper()
	if got := cubicAt(points, i); got != want {
		t.Errorf("CubicAt(%v, %d) = %v, want %v", points, i, got, want)
	}
}

func checkFlatOf(t *testing.T, p impl.Path, want [][]impl.Point) {
	t.Helper()
	before := copyOfPath(p)
	if got := impl.FlatOf(p); !sameLines(got, want) {
		t.Errorf("FlatOf(%v) = %v, want %v", p, got, want)
	}
	if !samePath(p, before) {
		t.Errorf("FlatOf(%v) wrote into its path: %v", before, p)
	}
}

func checkHull(t *testing.T, p impl.Path, want impl.Box) {
	t.Helper()
	before := copyOfPath(p)
	if got := impl.Hull(p); got != want {
		t.Errorf("Hull(%v) = %v, want %v", p, got, want)
	}
	if !samePath(p, before) {
		t.Errorf("Hull(%v) wrote into its path: %v", before, p)
	}
}

// Lists of so many right points: along the limits, all alike, one apart from the others, and some without a plan to them.
func rightLists(points int) [][]impl.Point {
	const far = impl.Far
	lists := [][]impl.Point{make([]impl.Point, points), dots(points)}
	for _, p := range []impl.Point{{X: 1, Y: -1}, {X: far, Y: far}, {X: -far, Y: -far}, {X: far, Y: -far}, {X: 3, Y: 5}} {
		lists = append(lists, slices.Repeat([]impl.Point{p}, points))
		for place := range points {
			list := make([]impl.Point, points)
			list[place] = p
			lists = append(lists, list)
			list = slices.Repeat([]impl.Point{p}, points)
			list[place] = impl.Point{X: -far, Y: far}
			lists = append(lists, list)
		}
	}
	seed := uint32(77)
	next := func(n int) int {
		seed = seed*1664525 + 1013904223
		return int(seed>>8) % n
	}
	for n := range 400 {
		width := 1 << (n % 24)
		list := []impl.Point{}
		for range points {
			list = append(list, impl.Point{X: next(2*width) - width, Y: next(2*width) - width})
		}
		lists = append(lists, list)
	}
	return lists
}

func TestFlatConstants(t *testing.T) {
	if impl.QuadSteps != 4 || impl.CubicSteps != 8 {
		t.Errorf("QuadSteps %d, CubicSteps %d, want 4, 8", impl.QuadSteps, impl.CubicSteps)
	}
}

func TestQuadAtWrittenOut(t *testing.T) {
	for _, c := range []struct{ points, want []impl.Point }{
		{placesOf(0, 0, 16, 0, 16, 0), placesOf(0, 0, 7, 0, 12, 0, 15, 0, 16, 0)},
		{placesOf(0, 0, 0, 0, 16, 16), placesOf(0, 0, 1, 1, 4, 4, 9, 9, 16, 16)},
		{placesOf(16, -16, 0, 0, 0, 0), placesOf(16, -16, 9, -9, 4, -4, 1, -1, 0, 0)},
		{placesOf(0, 0, 8, -8, 0, 0), placesOf(0, 0, 3, -3, 4, -4, 3, -3, 0, 0)},
		{placesOf(0, 100, 100, 0, 200, 100), placesOf(0, 100, 50, 63, 100, 50, 150, 63, 200, 100)},
		{placesOf(-5, 7, -5, 7, -5, 7), placesOf(-5, 7, -5, 7, -5, 7, -5, 7, -5, 7)},
		{placesOf(8388608, -8388608, 8388608, -8388608, -8388608, 8388608), placesOf(8388608, -8388608, 7340032, -7340032, 4194304, -4194304, -1048576, 1048576, -8388608, 8388608)},
	} {
		for i, want := range c.want {
			checkQuadAt(t, c.points, i, want)
		}
	}
}

func TestCubicAtWrittenOut(t *testing.T) {
	for _, c := range []struct{ points, want []impl.Point }{
		{placesOf(0, 0, 0, 0, 0, 0, 512, -512), placesOf(0, 0, 1, -1, 8, -8, 27, -27, 64, -64, 125, -125, 216, -216, 343, -343, 512, -512)},
		{placesOf(512, 0, 0, 0, 0, 0, 0, 0), placesOf(512, 0, 343, 0, 216, 0, 125, 0, 64, 0, 27, 0, 8, 0, 1, 0, 0, 0)},
		{placesOf(0, 0, 0, 512, 0, 0, 0, 0), placesOf(0, 0, 0, 147, 0, 216, 0, 225, 0, 192, 0, 135, 0, 72, 0, 21, 0, 0)},
		{placesOf(0, 0, 0, 0, -512, 0, 0, 0), placesOf(0, 0, -21, 0, -72, 0, -135, 0, -192, 0, -225, 0, -216, 0, -147, 0, 0, 0)},
		{placesOf(0, 0, 0, 0, 16, 0, 16, 0), placesOf(0, 0, 1, 0, 3, 0, 5, 0, 8, 0, 11, 0, 14, 0, 15, 0, 16, 0)},
		{slices.Repeat(placesOf(9, -9), 4), slices.Repeat(placesOf(9, -9), 9)},
		{placesOf(8388608, 0, 8388608, 0, -8388608, 0, -8388608, 0), placesOf(8388608, 0, 7667712, 0, 5767168, 0, 3080192, 0, 0, 0, -3080192, 0, -5767168, 0, -7667712, 0, -8388608, 0)},
	} {
		for i, want := range c.want {
			checkCubicAt(t, c.points, i, want)
		}
	}
}

// Just between two units the greater one counts, above 0 and below.
func TestCurvesBetweenTwoUnits(t *testing.T) {
	for _, c := range [][3]int{{8, 1, 1}, {-8, 1, 0}, {24, 1, 2}, {-24, 1, -1}, {7, 1, 0}, {-7, 1, 0}, {9, 1, 1}, {-9, 1, -1}, {2, 2, 1}, {-2, 2, 0}, {6, 2, 2}, {-6, 2, -1}, {8, 3, 5}, {-8, 3, -4}, {-16777, 1, -1049}} {
		checkQuadAt(t, placesOf(0, 0, 0, 0, c[0], 0), c[1], impl.Point{X: c[2]})
		checkQuadAt(t, placesOf(0, 0, 0, 0, 0, c[0]), c[1], impl.Point{Y: c[2]})
		checkQuadAt(t, placesOf(0, c[0], 0, 0, 0, 0), 4-c[1], impl.Point{Y: c[2]})
	}
	for _, c := range [][3]int{{256, 1, 1}, {-256, 1, 0}, {768, 1, 2}, {-768, 1, -1}, {255, 1, 0}, {-257, 1, -1}, {4, 4, 1}, {-4, 4, 0}, {12, 4, 2}, {-12, 4, -1}, {-5, 4, -1}, {32, 2, 1}, {-32, 2, 0}, {256, 7, 172}, {-256, 7, -171}} {
		checkCubicAt(t, placesOf(0, 0, 0, 0, 0, 0, c[0], 0), c[1], impl.Point{X: c[2]})
		checkCubicAt(t, placesOf(0, 0, 0, 0, 0, 0, 0, c[0]), c[1], impl.Point{Y: c[2]})
		checkCubicAt(t, placesOf(c[0], 0, 0, 0, 0, 0, 0, 0), 8-c[1], impl.Point{X: c[2]})
	}
}

// The sum is divided, not each of its parts.
func TestCurvesDivideTheSum(t *testing.T) {
	checkQuadAt(t, placesOf(1, -1, 1, -1, 1, -1), 2, impl.Point{X: 1, Y: -1})
	checkQuadAt(t, placesOf(0, 0, 1, 0, 1, 0), 1, impl.Point{})
	checkQuadAt(t, placesOf(0, 0, 1, 0, 2, 0), 1, impl.Point{X: 1})
	checkCubicAt(t, placesOf(1, -1, 1, -1, 1, -1, 1, -1), 4, impl.Point{X: 1, Y: -1})
	checkCubicAt(t, placesOf(0, 0, 0, 0, 1, 0, 1, 0), 4, impl.Point{X: 1})
	checkCubicAt(t, placesOf(0, 0, 0, 0, -1, 0, -1, 0), 4, impl.Point{})
}

func TestCurvesPastTheirSteps(t *testing.T) {
	for _, i := range []int{-1, -2, -4, -8, -1 << 32, math.MinInt + 1, math.MinInt} {
		checkQuadAt(t, dots(3), i, dots(3)[0])
		checkCubicAt(t, dots(4), i, dots(4)[0])
	}
	for _, i := range []int{5, 6, 8, 9, 16, 1 << 32, math.MaxInt - 1, math.MaxInt} {
		checkQuadAt(t, dots(3), i, dots(3)[2])
	}
	for _, i := range []int{9, 10, 16, 64, 1 << 32, math.MaxInt - 1, math.MaxInt} {
		checkCubicAt(t, dots(4), i, dots(4)[3])
	}
}

// Each number of each point by itself, at the limits and past them.
func TestCurvesAtTheLimitsOfPoints(t *testing.T) {
	for _, n := range farAndPast {
		for place := range 4 {
			for _, p := range []impl.Point{{X: n, Y: 7}, {X: 7, Y: n}} {
				for i := -1; i <= 9; i++ {
					checkCurvesWith(t, p, place, i)
				}
			}
		}
	}
}

func checkCurvesWith(t *testing.T, p impl.Point, place int, i int) {
	t.Helper()
	right := withinFar(p.X) && withinFar(p.Y)
	list := slices.Repeat(placesOf(100, 200), 4)
	list[place] = p
	cubic, quad := impl.Point{}, impl.Point{}
	if right {
		cubic, quad = curveByCuts(list, i, 8), curveByCuts(list[:3], i, 4)
	}
	checkCubicAt(t, list, i, cubic)
	if place < 3 {
		checkQuadAt(t, list[:3], i, quad)
	}
}

func TestCurvesWithSeveralWrongPoints(t *testing.T) {
	for _, wrong := range wrongPoints() {
		for i := -1; i <= 9; i++ {
			checkQuadAt(t, slices.Repeat([]impl.Point{wrong}, 3), i, impl.Point{})
			checkCubicAt(t, slices.Repeat([]impl.Point{wrong}, 4), i, impl.Point{})
			checkCubicAt(t, []impl.Point{{X: 1}, wrong, wrong, {X: 2}}, i, impl.Point{})
		}
	}
}

func TestCurvesByCuts(t *testing.T) {
	for i := -1; i <= 9; i++ {
		for _, list := range rightLists(3) {
			checkQuadAt(t, list, i, curveByCuts(list, i, 4))
		}
		for _, list := range rightLists(4) {
			checkCubicAt(t, list, i, curveByCuts(list, i, 8))
		}
	}
}

func TestPromise7CurvesBeginAndEndAtTheirEnds(t *testing.T) {
	for _, list := range rightLists(3) {
		checkQuadAt(t, list, 0, list[0])
		checkQuadAt(t, list, impl.QuadSteps, list[2])
	}
	for _, list := range rightLists(4) {
		checkCubicAt(t, list, 0, list[0])
		checkCubicAt(t, list, impl.CubicSteps, list[3])
	}
}

func TestPromise7CurvesStayInTheBoxOfTheirPoints(t *testing.T) {
	for _, list := range rightLists(3) {
		for i := range impl.QuadSteps + 1 {
			if got := quadAt(list, i); !hasPoint(impl.BoxOf(list), got) {
				t.Errorf("QuadAt(%v, %d) = %v is outside", list, i, got)
			}
		}
	}
	for _, list := range rightLists(4) {
		for i := range impl.CubicSteps + 1 {
			if got := cubicAt(list, i); !hasPoint(impl.BoxOf(list), got) {
				t.Errorf("CubicAt(%v, %d) = %v is outside", list, i, got)
			}
		}
	}
}

func TestPromise7LinesStayInTheHull(t *testing.T) {
	for _, p := range rightPaths() {
		for _, line := range impl.FlatOf(p) {
			for _, place := range line {
				if !hasPoint(impl.Hull(p), place) {
					t.Errorf("FlatOf(%v): %v is outside of %v", p, place, impl.Hull(p))
				}
			}
		}
	}
}

func TestFlatOfWrittenOut(t *testing.T) {
	for _, c := range []struct {
		text string
		want [][]impl.Point
	}{
		{"", nil},
		{"M 3 4", [][]impl.Point{placesOf(3, 4)}},
		{"M 3 4 L 5 6", [][]impl.Point{placesOf(3, 4, 5, 6)}},
		{"M 3 4 L 3 4", [][]impl.Point{placesOf(3, 4, 3, 4)}},
		{"M 3 4 L 3 4 L 3 4", [][]impl.Point{placesOf(3, 4, 3, 4, 3, 4)}},
		{"M 0 0 Q 16 0 16 0", [][]impl.Point{placesOf(0, 0, 7, 0, 12, 0, 15, 0, 16, 0)}},
		{"M 0 0 C 0 0 0 0 512 -512", [][]impl.Point{placesOf(0, 0, 1, -1, 8, -8, 27, -27, 64, -64, 125, -125, 216, -216, 343, -343, 512, -512)}},
		{"M 3 4 M 5 6", [][]impl.Point{placesOf(3, 4), placesOf(5, 6)}},
		{"M 3 4 M 3 4 M 3 4", [][]impl.Point{placesOf(3, 4), placesOf(3, 4), placesOf(3, 4)}},
		{"M 1 2 L 3 4 M 5 6 L 7 8 M 9 10", [][]impl.Point{placesOf(1, 2, 3, 4), placesOf(5, 6, 7, 8), placesOf(9, 10)}},
		{"M 100 0 Q 116 0 116 0 L 9 9 Q 9 9 25 9", [][]impl.Point{placesOf(100, 0, 107, 0, 112, 0, 115, 0, 116, 0, 9, 9, 10, 9, 13, 9, 18, 9, 25, 9)}},
		{"M 0 0 Q 0 16 0 16 Q 16 16 16 16", [][]impl.Point{placesOf(0, 0, 0, 7, 0, 12, 0, 15, 0, 16, 7, 16, 12, 16, 15, 16, 16, 16)}},
		{"M 5 5 Q 5 5 5 5", [][]impl.Point{slices.Repeat(placesOf(5, 5), 5)}},
		{"M 5 5 C 5 5 5 5 5 5", [][]impl.Point{slices.Repeat(placesOf(5, 5), 9)}},
	} {
		checkFlatOf(t, pathOf(t, c.text), c.want)
	}
	checkFlatOf(t, impl.Path{Verbs: []int{}, Points: []impl.Point{}}, nil)
}

// The first point comes again behind a Close, but for a line that ends there already.
func TestFlatOfClosedLines(t *testing.T) {
	for _, c := range []struct {
		text string
		want [][]impl.Point
	}{
		{"M 3 4 Z", [][]impl.Point{placesOf(3, 4)}},
		{"M 3 4 Z M 3 4 Z", [][]impl.Point{placesOf(3, 4), placesOf(3, 4)}},
		{"M 3 4 Z M 5 6 L 7 8", [][]impl.Point{placesOf(3, 4), placesOf(5, 6, 7, 8)}},
		{"M 1 2 L 3 4 Z", [][]impl.Point{placesOf(1, 2, 3, 4, 1, 2)}},
		{"M 1 2 L 1 4 Z", [][]impl.Point{placesOf(1, 2, 1, 4, 1, 2)}},
		{"M 1 2 L 3 2 Z", [][]impl.Point{placesOf(1, 2, 3, 2, 1, 2)}},
		{"M 1 2 L 2 1 Z", [][]impl.Point{placesOf(1, 2, 2, 1, 1, 2)}},
		{"M 1 2 L 1 2 Z", [][]impl.Point{placesOf(1, 2, 1, 2)}},
		{"M 1 2 L 3 4 L 1 2 Z", [][]impl.Point{placesOf(1, 2, 3, 4, 1, 2)}},
		{"M 1 2 L 3 4 L 3 4 Z", [][]impl.Point{placesOf(1, 2, 3, 4, 3, 4, 1, 2)}},
		{"M 1 2 L 1 2 L 3 4 Z", [][]impl.Point{placesOf(1, 2, 1, 2, 3, 4, 1, 2)}},
		{"M 1 2 L 3 4 Z M 5 6 L 7 8 Z", [][]impl.Point{placesOf(1, 2, 3, 4, 1, 2), placesOf(5, 6, 7, 8, 5, 6)}},
		{"M 1 2 L 3 4 Z M 3 4 L 1 2 Z", [][]impl.Point{placesOf(1, 2, 3, 4, 1, 2), placesOf(3, 4, 1, 2, 3, 4)}},
		{"M 1 2 L 3 4 M 5 6 L 7 8 Z", [][]impl.Point{placesOf(1, 2, 3, 4), placesOf(5, 6, 7, 8, 5, 6)}},
		{"M 1 2 L 3 4 M 5 6 L 1 2 Z", [][]impl.Point{placesOf(1, 2, 3, 4), placesOf(5, 6, 1, 2, 5, 6)}},
		{"M 0 0 Q 8 -8 0 0 Z", [][]impl.Point{placesOf(0, 0, 3, -3, 4, -4, 3, -3, 0, 0)}},
		{"M 0 0 Q 16 0 16 0 Z", [][]impl.Point{placesOf(0, 0, 7, 0, 12, 0, 15, 0, 16, 0, 0, 0)}},
		{"M 0 0 L 512 0 C 0 0 0 0 0 0 Z", [][]impl.Point{placesOf(0, 0, 512, 0, 343, 0, 216, 0, 125, 0, 64, 0, 27, 0, 8, 0, 1, 0, 0, 0)}},
		{"M 0 0 C 0 0 0 0 512 0 Z", [][]impl.Point{placesOf(0, 0, 1, 0, 8, 0, 27, 0, 64, 0, 125, 0, 216, 0, 343, 0, 512, 0, 0, 0)}},
		{"M 5 5 Q 5 5 5 5 Z", [][]impl.Point{slices.Repeat(placesOf(5, 5), 5)}},
		{"M 5 5 C 5 5 5 5 5 5 Z", [][]impl.Point{slices.Repeat(placesOf(5, 5), 9)}},
		{"M 0 0 L 2 0 L 2 3 L 0 3 Z", [][]impl.Point{placesOf(0, 0, 2, 0, 2, 3, 0, 3, 0, 0)}},
	} {
		checkFlatOf(t, pathOf(t, c.text), c.want)
	}
}

func TestFlatOfWithMaxPoints(t *testing.T) {
	for _, c := range []struct {
		verbs []int
		want  []int
	}{
		{movedThen(impl.LineTo, 23), []int{24}},
		{append(movedThen(impl.LineTo, 22), impl.Close), []int{24}},
		{movedThen(impl.MoveTo, 23), slices.Repeat([]int{1}, 24)},
		{append(movedThen(impl.QuadTo, 11), impl.LineTo), []int{46}},
		{append(movedThen(impl.QuadTo, 11), impl.LineTo, impl.Close), []int{47}},
		{append(movedThen(impl.CubicTo, 7), impl.QuadTo, impl.Close), []int{62}},
		{slices.Repeat([]int{impl.MoveTo, impl.CubicTo, impl.Close}, 6), slices.Repeat([]int{10}, 6)},
	} {
		got := []int{}
		for _, line := range impl.FlatOf(impl.Path{Verbs: c.verbs, Points: dots(pointsOf(c.verbs))}) {
			got = append(got, len(line))
		}
		if !slices.Equal(got, c.want) {
			t.Errorf("FlatOf of %v: lists of %v points, want %v", c.verbs, got, c.want)
		}
	}
}

func TestFlatOfByCuts(t *testing.T) {
	for _, p := range rightPaths() {
		checkFlatOf(t, p, linesByCuts(p))
	}
	lists := [][]int{{}}
	for from := 0; from < len(lists); from++ {
		verbs := lists[from]
		for verb := 1; verb <= 5 && len(verbs) < 5; verb++ {
			lists = append(lists, append(slices.Clone(verbs), verb))
		}
		few := slices.Repeat(placesOf(0, 0, 5, 9, 0, 0), 6)[:pointsOf(verbs)]
		for _, points := range [][]impl.Point{dots(pointsOf(verbs)), few} {
			if p := (impl.Path{Verbs: verbs, Points: points}); rightByLetters(p) {
				checkFlatOf(t, p, linesByCuts(p))
			}
		}
	}
}

func TestFlatOfWhatIsWrong(t *testing.T) {
	for _, p := range wrongPaths() {
		checkFlatOf(t, p, nil)
	}
}

// What is written into one list, up to the end of its room, is seen in no other one.
func checkNoSharedRoom(t *testing.T, lines [][]impl.Point, want [][]impl.Point) {
	t.Helper()
	now := slices.Clone(want)
	for written, line := range lines {
		mark := impl.Point{X: 1<<40 + written, Y: written}
		room := line[:cap(line)]
		for i := range room {
			room[i] = mark
		}
		now[written] = slices.Repeat([]impl.Point{mark}, len(line))
		if !sameLines(lines, now) {
			t.Errorf("list %d was written, the lists are %v, want %v", written, lines, now)
		}
	}
}

func TestFlatOfAnswersInNewMemory(t *testing.T) {
	verbs := []int{1, 2, 2, 5, 1, 3, 1, 4, 5, 77}
	points := append(dots(10), impl.Point{X: 900, Y: 901})
	roomOfVerbs, roomOfPoints := slices.Clone(verbs), slices.Clone(points)
	p := impl.Path{Verbs: verbs[:9], Points: points[:10]}
	want := linesByCuts(p)
	checkNoSharedRoom(t, impl.FlatOf(p), want)
	if !slices.Equal(verbs, roomOfVerbs) || !slices.Equal(points, roomOfPoints) {
		t.Errorf("the path's room became %v, %v", verbs, points)
	}
	again := impl.FlatOf(p)
	if !sameLines(again, want) {
		t.Errorf("FlatOf a second time = %v, want %v", again, want)
	}
	for i := range points {
		points[i] = impl.Point{X: -1, Y: -1}
	}
	if !sameLines(again, want) {
		t.Errorf("the answer became %v", again)
	}
}

func TestHullWrittenOut(t *testing.T) {
	for _, c := range []struct {
		text string
		want impl.Box
	}{
		{"", impl.Box{}},
		{"M 0 0", impl.Box{X1: 1, Y1: 1}},
		{"M 3 -4", impl.Box{X0: 3, Y0: -4, X1: 4, Y1: -3}},
		{"M 3 -4 Z", impl.Box{X0: 3, Y0: -4, X1: 4, Y1: -3}},
		{"M 1 2 L 30 -40 Z", impl.Box{X0: 1, Y0: -40, X1: 31, Y1: 3}},
		{"M 0 0 Q 100 -100 0 0", impl.Box{Y0: -100, X1: 101, Y1: 1}},
		{"M 0 0 C 10 20 -30 40 5 5 Z M 50 60", impl.Box{X0: -30, X1: 51, Y1: 61}},
		{"M 8388608 8388608", impl.Box{X0: 8388608, Y0: 8388608, X1: 8388609, Y1: 8388609}},
		{"M -8388608 8388608 L 8388608 -8388608", impl.Box{X0: -8388608, Y0: -8388608, X1: 8388609, Y1: 8388609}},
		{"M 0 0 L 2 0 L 2 3 L 0 3 Z", impl.Box{X1: 3, Y1: 4}},
	} {
		checkHull(t, pathOf(t, c.text), c.want)
	}
}

func TestHullOfManyPaths(t *testing.T) {
	for _, p := range rightPaths() {
		want := impl.Box{}
		if len(p.Points) > 0 {
			want = impl.Box{X0: math.MaxInt, Y0: math.MaxInt, X1: math.MinInt, Y1: math.MinInt}
		}
		for _, place := range p.Points {
			want = impl.Box{X0: min(want.X0, place.X), Y0: min(want.Y0, place.Y), X1: max(want.X1, place.X+1), Y1: max(want.Y1, place.Y+1)}
		}
		checkHull(t, p, want)
	}
}

func TestHullOfWhatIsWrong(t *testing.T) {
	for _, p := range wrongPaths() {
		checkHull(t, p, impl.Box{})
	}
}
