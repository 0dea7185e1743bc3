package tests

import (
	"math"
	"math/big"
	"slices"
	"testing"

	"loop.example/g00190/impl"
)

var pastReach = []int{math.MinInt, math.MinInt + 1, -1 << 58, -1 << 32, -boxFar - 2, -boxFar - 1, boxFar + 1, boxFar + 2, 1 << 32, 1 << 58, math.MaxInt - 1, math.MaxInt}

// Some of them, times 256 and without their highest bits, are those of a square that there is.
var wrongSquares = []int{
	math.MinInt, math.MinInt + 1, -1 << 56, -1<<56 - 2000, -1<<56 + 2000, -1<<57 - 1, -1 << 32, -4000, -2002, -2001,
	2001, 2002, 4000, 1 << 32, 1 << 55, 1<<56 - 2000, 1 << 56, 1<<56 + 5, 1<<56 + 2000, 1<<57 + 7, math.MaxInt - 1, math.MaxInt,
}

// Where the edge from a to b is at this height, by numbers without a limit.
func crossingOf(a impl.Point, b impl.Point, height int) *big.Rat {
	part := big.NewRat(int64(height-a.Y), int64(b.Y-a.Y))
	part.Mul(part, big.NewRat(int64(b.X-a.X), 1))
	return part.Add(part, big.NewRat(int64(a.X), 1))
}

// Of points within the limits: the edges that are crossed on the way from p to the right, those down less those up.
func windByCrossings(list []impl.Point, p impl.Point) int {
	wind := 0
	for i, a := range list {
		b := list[0]
		if i+1 < len(list) {
			b = list[i+1]
		}
		upper, lower := min(a.Y, b.Y), max(a.Y, b.Y)
		if p.Y < upper || p.Y >= lower {
			continue
		}
		if crossingOf(a, b, p.Y).Cmp(big.NewRat(int64(p.X), 1)) <= 0 {
			continue
		}
		if a.Y < b.Y {
			wind++
		} else {
			wind--
		}
	}
	return wind
}

// Of a point that is on no edge: how often one who stands there turns round while he looks along the line.
func windByTurning(list []impl.Point, p impl.Point) int {
	turned := 0.0
	for i, a := range list {
		b := list[(i+1)%len(list)]
		from := math.Atan2(float64(a.Y-p.Y), float64(a.X-p.X))
		to := math.Atan2(float64(b.Y-p.Y), float64(b.X-p.X))
		turned += math.Remainder(to-from, 2*math.Pi)
	}
	return int(math.Round(turned / (2 * math.Pi)))
}

func onSomeEdge(list []impl.Point, p impl.Point) bool {
	for i, a := range list {
		b := list[(i+1)%len(list)]
		straight := (b.X-a.X)*(p.Y-a.Y) == (p.X-a.X)*(b.Y-a.Y)
		between := min(a.X, b.X) <= p.X && p.X <= max(a.X, b.X) && min(a.Y, b.Y) <= p.Y && p.Y <= max(a.Y, b.Y)
		if straight && between {
			return true
		}
	}
	return false
}

func coversByCrossings(lines [][]impl.Point, even bool, p impl.Point) bool {
	sum := 0
	for _, line := range lines {
		sum += windByCrossings(line, p)
	}
	if even {
		return sum&1 == 1
	}
	return sum != 0
}

func maskByCrossings(lines [][]impl.Point, even bool, x int, y int) int {
	sum := 0
	for _, c := range []struct{ x, y, counts int }{{64, 64, 1}, {192, 64, 2}, {64, 192, 4}, {192, 192, 8}} {
		if coversByCrossings(lines, even, impl.Point{X: 256*x + c.x, Y: 256*y + c.y}) {
			sum += c.counts
		}
	}
	return sum
}

func checkWindOf(t *testing.T, list []impl.Point, p impl.Point, want int) {
	t.Helper()
	before := slices.Clone(list)
	if got := impl.WindOf(list, p); got != want {
		t.Errorf("WindOf(%v, %v) = %d, want %d", list, p, got, want)
	}
	if !slices.Equal(list, before) {
		t.Errorf("WindOf(%v, %v) wrote into its list: %v", before, p, list)
	}
}

func checkCovers(t *testing.T, lines [][]impl.Point, even bool, p impl.Point, want bool) {
	t.Helper()
	before := copyOfLines(lines)
	if got := impl.Covers(lines, even, p); got != want {
		t.Errorf("Covers(%v, %v, %v) = %v, want %v", lines, even, p, got, want)
	}
	if !sameLines(lines, before) {
		t.Errorf("Covers(%v, %v, %v) wrote into its lines: %v", before, even, p, lines)
	}
}

func checkMaskAt(t *testing.T, lines [][]impl.Point, even bool, x int, y int, want int) {
	t.Helper()
	before := copyOfLines(lines)
	if got := impl.MaskAt(lines, even, x, y); got != want {
		t.Errorf("MaskAt(%v, %v, %d, %d) = %d, want %d", lines, even, x, y, got, want)
	}
	if !sameLines(lines, before) {
		t.Errorf("MaskAt(%v, %v, %d, %d) wrote into its lines: %v", before, even, x, y, lines)
	}
}

func checkCountOf(t *testing.T, bits int, want int) {
	t.Helper()
	if got := impl.CountOf(bits); got != want {
		t.Errorf("CountOf(%d) = %d, want %d", bits, got, want)
	}
}

func backwards[T any](list []T) []T {
	turned := slices.Clone(list)
	slices.Reverse(turned)
	return turned
}

// The same closed line, begun at another of its points.
func begunAt(list []impl.Point, place int) []impl.Point {
	return slices.Concat(list[place:], list[:place])
}

// Around the box once: to the right along its upper edge first, so that it goes down on its right side.
func around(x0 int, y0 int, x1 int, y1 int) []impl.Point {
	return placesOf(x0, y0, x1, y0, x1, y1, x0, y1)
}

// All lists of so many of these points, also with one of them several times.
func allLists(points []impl.Point, long int) [][]impl.Point {
	lists := [][]impl.Point{{}}
	for range long {
		longer := [][]impl.Point{}
		for _, list := range lists {
			for _, p := range points {
				longer = append(longer, append(slices.Clone(list), p))
			}
		}
		lists = longer
	}
	return lists
}

func TestWindOfFewPoints(t *testing.T) {
	for _, p := range append(pointsWithin(-3, 3), placesOf(boxFar, boxFar, -boxFar, boxFar, boxFar, -boxFar, -boxFar, -boxFar)...) {
		checkWindOf(t, nil, p, 0)
		checkWindOf(t, []impl.Point{}, p, 0)
		for _, a := range pointsWithin(-2, 2) {
			checkWindOf(t, []impl.Point{a}, p, 0)
			for _, b := range pointsWithin(-2, 2) {
				checkWindOf(t, []impl.Point{a, b}, p, 0)
			}
		}
	}
}

func TestWindOfBoxes(t *testing.T) {
	for _, c := range []impl.Box{{X0: 0, Y0: 0, X1: 1, Y1: 1}, {X0: -3, Y0: -2, X1: 3, Y1: 1}, {X0: 1, Y0: -4, X1: 2, Y1: 4}, {X0: -4, Y0: 2, X1: 4, Y1: 3}} {
		list := around(c.X0, c.Y0, c.X1, c.Y1)
		for _, p := range pointsWithin(-6, 6) {
			want := 0
			if hasPoint(c, p) {
				want = 1
			}
			for place := range list {
				checkWindOf(t, begunAt(list, place), p, want)
				checkWindOf(t, backwards(begunAt(list, place)), p, -want)
			}
			checkWindOf(t, append(slices.Clone(list), list[0]), p, want)
		}
	}
}

// A line that stays at one height goes around nothing, at that height nor at another.
func TestWindOfEdgesAtOneHeight(t *testing.T) {
	for _, list := range [][]impl.Point{placesOf(0, 5, 9, 5), placesOf(9, 5, 0, 5, 4, 5), placesOf(-8, 5, 8, 5, -8, 5, 8, 5), placesOf(3, 5, 3, 5, 3, 5)} {
		for x := -10; x <= 10; x++ {
			for y := 3; y <= 7; y++ {
				checkWindOf(t, list, impl.Point{X: x, Y: y}, 0)
			}
		}
	}
	// Steps, whose level edges are at the height of p and lie left of it, around it and right of it.
	steps := placesOf(0, 0, 10, 0, 10, 10, 20, 10, 20, 20, -10, 20, -10, 10, 0, 10)
	for _, c := range []struct{ x, y, want int }{
		{-11, 10, 0}, {-10, 10, 1}, {-9, 10, 1}, {-1, 10, 1}, {0, 10, 1}, {5, 10, 1}, {10, 10, 1}, {15, 10, 1}, {19, 10, 1}, {20, 10, 0}, {21, 10, 0},
		{-1, 9, 0}, {0, 9, 1}, {9, 9, 1}, {10, 9, 0}, {15, 9, 0}, {-10, 0, 0}, {0, 0, 1}, {9, 0, 1}, {10, 0, 0}, {15, 0, 0},
		{-10, 20, 0}, {0, 20, 0}, {5, 20, 0}, {19, 20, 0}, {-10, 19, 1}, {19, 19, 1}, {20, 19, 0}, {5, -1, 0},
	} {
		checkWindOf(t, steps, impl.Point{X: c.x, Y: c.y}, c.want)
		checkWindOf(t, backwards(steps), impl.Point{X: c.x, Y: c.y}, -c.want)
	}
	// The level edge at the height of p is a way out and back, where the line turns or goes on.
	checkWindOf(t, placesOf(0, 0, 10, 10, 20, 10, 10, 10, 0, 20), impl.Point{X: 2, Y: 10}, 1)
	checkWindOf(t, placesOf(0, 0, 10, 10, 20, 10, 30, 0), impl.Point{X: 15, Y: 10}, 0)
	checkWindOf(t, placesOf(0, 20, 10, 10, 20, 10, 30, 20), impl.Point{X: 15, Y: 10}, 1)
	checkWindOf(t, placesOf(0, 20, 10, 10, 20, 10, 30, 20), impl.Point{X: 5, Y: 10}, 0)
}

// Corners at the height of p: of a diamond, on its right both edges go down, on its left both go up, above and below it turns.
func TestWindOfCornersAtTheHeightOfThePoint(t *testing.T) {
	diamond := placesOf(0, -10, 10, 0, 0, 10, -10, 0)
	for _, c := range []struct{ x, y, want int }{
		{-20, 0, 0}, {-11, 0, 0}, {-10, 0, 1}, {-9, 0, 1}, {0, 0, 1}, {9, 0, 1}, {10, 0, 0}, {11, 0, 0}, {20, 0, 0},
		{-20, -10, 0}, {-1, -10, 0}, {0, -10, 0}, {1, -10, 0}, {-20, 10, 0}, {-1, 10, 0}, {0, 10, 0}, {1, 10, 0},
		{-1, -9, 1}, {0, -9, 1}, {1, -9, 0}, {-1, 9, 1}, {0, 9, 1}, {1, 9, 0}, {-2, 9, 0}, {0, -11, 0}, {0, 11, 0},
	} {
		checkWindOf(t, diamond, impl.Point{X: c.x, Y: c.y}, c.want)
		checkWindOf(t, backwards(diamond), impl.Point{X: c.x, Y: c.y}, -c.want)
	}
	// The line comes in at the height of p, right of it, and turns there, or goes on behind a level edge.
	for _, list := range [][]impl.Point{placesOf(0, 0, 40, 0, 20, 10, 40, 20, 0, 20), placesOf(0, 0, 30, -20, 25, 10, 40, 10, 30, 40, 0, 20)} {
		checkWindOf(t, list, impl.Point{X: 5, Y: 10}, 1)
		checkWindOf(t, backwards(list), impl.Point{X: 5, Y: 10}, -1)
	}
	teeth := placesOf(0, 0, 10, 10, 20, 0, 30, 10, 40, 0, 40, 20, 0, 20)
	for _, c := range []struct{ x, y, want int }{{-5, 0, 0}, {5, 0, 0}, {-5, 10, 0}, {5, 10, 1}, {10, 10, 1}, {20, 10, 1}, {30, 10, 1}, {39, 10, 1}, {40, 10, 0}, {15, 0, 0}, {25, 0, 0}} {
		checkWindOf(t, teeth, impl.Point{X: c.x, Y: c.y}, c.want)
	}
}

// On an edge its product is 0, and it adds nothing: what lies right of it tells.
func TestWindOfAtEdgesAndCorners(t *testing.T) {
	triangle := placesOf(0, 0, 30, 30, -30, 60)
	for _, c := range []struct{ x, y, want int }{
		{0, 0, 0}, {-1, 0, 0}, {1, 0, 0}, {30, 30, 0}, {29, 30, 1}, {31, 30, 0}, {-30, 60, 0},
		{10, 10, 0}, {9, 10, 1}, {11, 10, 0}, {10, 40, 0}, {9, 40, 1}, {11, 40, 0}, {-15, 30, 1}, {-16, 30, 0}, {-14, 30, 1},
		{-5, 10, 1}, {-6, 10, 0}, {-4, 10, 1}, {-25, 50, 1}, {-26, 50, 0}, {-24, 50, 1}, {-10, 50, 0}, {-11, 50, 1}, {-9, 50, 0},
	} {
		p := impl.Point{X: c.x, Y: c.y}
		for place := range triangle {
			checkWindOf(t, begunAt(triangle, place), p, c.want)
			checkWindOf(t, backwards(begunAt(triangle, place)), p, -c.want)
		}
	}
	// Edges so slanted that one unit to the side is hardly off them.
	slanted := placesOf(0, 0, 1000, 3, 1000, 4, 0, 4)
	for _, c := range []struct{ x, y, want int }{{0, 0, 0}, {333, 1, 1}, {334, 1, 0}, {332, 1, 1}, {666, 2, 1}, {667, 2, 0}, {1000, 3, 0}, {999, 3, 1}} {
		checkWindOf(t, slanted, impl.Point{X: c.x, Y: c.y}, c.want)
	}
}

// All other edges are level, or lie left of p.
func TestWindOfTheClosingEdgeAlone(t *testing.T) {
	p := impl.Point{X: 10, Y: 10}
	for _, c := range []struct {
		list []impl.Point
		want int
	}{
		{placesOf(20, 20, 0, 20, 0, 0, 20, 0), 1}, {placesOf(20, 0, 0, 0, 0, 20, 20, 20), -1},
		{placesOf(50, 50, 0, 10, 50, -50), 1}, {placesOf(50, -50, 0, 10, 50, 50), -1},
		{placesOf(50, 50, 9, 10, 50, -50), 1}, {placesOf(50, 50, 10, 10, 50, -50), 1}, {placesOf(50, 50, 11, 10, 50, -50), 0},
		{placesOf(11, 11, 0, 11, 0, 10, 11, 10), 1}, {placesOf(11, 10, 0, 10, 0, 11, 11, 11), -1},
		{placesOf(10, 11, 0, 11, 0, 10, 10, 10), 0}, {placesOf(20, 20, 0, 20, 0, 0, 20, 0, 20, 20), 1}, {placesOf(20, 20, 20, 20, 0, 20, 0, 0, 20, 0, 20, 0), 1},
	} {
		checkWindOf(t, c.list, p, c.want)
	}
}

func TestWindOfSeveralTimesAround(t *testing.T) {
	ring := around(0, 0, 20, 20)
	inner := around(5, 5, 15, 15)
	for _, c := range []struct {
		list    []impl.Point
		in, out int
	}{
		{ring, 1, 1},
		{backwards(ring), -1, -1},
		{slices.Concat(ring, ring), 2, 2},
		{slices.Concat(backwards(ring), backwards(ring)), -2, -2},
		{slices.Concat(ring, backwards(ring)), 0, 0},
		{slices.Repeat(ring, 7), 7, 7},
		{slices.Repeat(backwards(ring), 100), -100, -100},
		{slices.Concat(ring, ring[:1], inner, inner[:1]), 2, 1},
		{slices.Concat(ring, ring[:1], backwards(begunAt(inner, 1)), inner[:1]), 0, 1},
	} {
		checkWindOf(t, c.list, impl.Point{X: 10, Y: 10}, c.in)
		checkWindOf(t, c.list, impl.Point{X: 2, Y: 10}, c.out)
		checkWindOf(t, c.list, impl.Point{X: 30, Y: 10}, 0)
		checkWindOf(t, c.list, impl.Point{X: -30, Y: 10}, 0)
		checkWindOf(t, c.list, impl.Point{X: 10, Y: 30}, 0)
		checkWindOf(t, c.list, impl.Point{X: 10, Y: -30}, 0)
	}
	star := placesOf(0, -100, 59, 81, -95, -31, 95, -31, -59, 81)
	checkWindOf(t, star, impl.Point{}, 2)
	checkWindOf(t, star, impl.Point{Y: -60}, 1)
	checkWindOf(t, star, impl.Point{X: 40, Y: 40}, 1)
	checkWindOf(t, star, impl.Point{Y: 70}, 0)
	checkWindOf(t, backwards(star), impl.Point{}, -2)
	eight := placesOf(0, 0, 20, 20, 20, 0, 0, 20)
	checkWindOf(t, eight, impl.Point{X: 2, Y: 10}, 1)
	checkWindOf(t, eight, impl.Point{X: 18, Y: 10}, -1)
	checkWindOf(t, eight, impl.Point{X: 10, Y: 2}, 0)
}

func TestWindOfPointsThatAreTheSame(t *testing.T) {
	list := placesOf(0, 0, 30, 30, -30, 60)
	doubled := []impl.Point{}
	for _, p := range list {
		doubled = append(doubled, p, p, p)
	}
	for y := -2; y <= 62; y++ {
		for x := -32; x <= 32; x++ {
			p := impl.Point{X: x, Y: y}
			want := windByCrossings(list, p)
			checkWindOf(t, doubled, p, want)
			checkWindOf(t, slices.Concat(list[:1], list, list[:1], list[:1]), p, want)
		}
	}
	for _, p := range pointsWithin(-2, 2) {
		checkWindOf(t, make([]impl.Point, 9), p, 0)
	}
}

func TestWindOfAllShortLists(t *testing.T) {
	for _, list := range allLists(pointsWithin(0, 3), 3) {
		for _, p := range pointsWithin(-1, 4) {
			checkWindOf(t, list, p, windByCrossings(list, p))
		}
	}
	few := placesOf(0, 0, 2, 0, 4, 0, 0, 2, 2, 2, 4, 2, 1, 4, 3, 4)
	for _, list := range allLists(few, 4) {
		for _, p := range pointsWithin(-1, 5) {
			want := 0
			if onSomeEdge(list, p) {
				want = windByCrossings(list, p)
			} else {
				want = windByTurning(list, p)
			}
			checkWindOf(t, list, p, want)
		}
	}
}

func TestWindOfLongLists(t *testing.T) {
	for _, size := range []int{3, 4, 7} {
		for _, list := range rightLists(size) {
			for _, p := range []impl.Point{{}, {X: 1, Y: 1}, {X: -2, Y: 1}, {X: -50, Y: 90}, {X: 40000, Y: -3000}, {X: -impl.Far, Y: 0}, list[0], list[size-1], {X: list[1].X - 1, Y: list[1].Y}} {
				checkWindOf(t, list, p, windByCrossings(list, p))
			}
		}
	}
	for _, p := range []impl.Point{{X: 100, Y: 0}, {X: 200, Y: -500}, {X: 1, Y: 207}, {X: -8, Y: 238}} {
		checkWindOf(t, dots(500), p, windByCrossings(dots(500), p))
	}
}

// The limit is taken in: lines and points at it, and at its opposite corners, where the products are greatest.
func TestWindOfAtTheLimits(t *testing.T) {
	const far = boxFar
	whole := around(-far, -far, far, far)
	for _, c := range []struct{ x, y, want int }{
		{0, 0, 1}, {-far, -far, 1}, {-far, 0, 1}, {0, -far, 1}, {far - 1, far - 1, 1}, {-far, far - 1, 1}, {far - 1, -far, 1},
		{far, 0, 0}, {0, far, 0}, {far, far, 0}, {-far, far, 0}, {far, -far, 0},
	} {
		checkWindOf(t, whole, impl.Point{X: c.x, Y: c.y}, c.want)
		checkWindOf(t, backwards(whole), impl.Point{X: c.x, Y: c.y}, -c.want)
	}
	corners := placesOf(-far, -far, far, far, far, -far, -far, far, 0, far, far, 0, -far, far-1, -far+1, -far)
	for _, list := range allLists(corners, 3) {
		for _, p := range slices.Concat(corners, placesOf(0, 0, 1, 0, -1, 0, 0, 1, 0, -1, far-1, far-1, 1-far, 1-far, far-1, 1-far)) {
			checkWindOf(t, list, p, windByCrossings(list, p))
		}
	}
	half := placesOf(-far, -far, far, far, -far, far)
	for _, n := range []int{-far + 1, -far / 2, -1, 0, 1, far / 2, far - 1} {
		checkWindOf(t, half, impl.Point{X: n, Y: n}, 0)
		checkWindOf(t, half, impl.Point{X: n - 1, Y: n}, 1)
		checkWindOf(t, half, impl.Point{X: n + 1, Y: n}, 0)
	}
}

// Each number of each place by itself, one beyond the limit and farther; it is around p without it.
func TestWindOfPastTheLimits(t *testing.T) {
	for _, list := range [][]impl.Point{around(-20, -20, 20, 20), placesOf(-boxFar, -boxFar, boxFar, -boxFar, boxFar, boxFar, 0, boxFar, -boxFar, boxFar)} {
		checkWindOf(t, list, impl.Point{X: 3, Y: 4}, 1)
		for _, n := range pastReach {
			for place := range list {
				wrong := slices.Clone(list)
				wrong[place].X = n
				checkWindOf(t, wrong, impl.Point{X: 3, Y: 4}, 0)
				wrong = slices.Clone(list)
				wrong[place].Y = n
				checkWindOf(t, wrong, impl.Point{X: 3, Y: 4}, 0)
				longer := slices.Insert(slices.Clone(list), place, impl.Point{X: n, Y: n})
				checkWindOf(t, longer, impl.Point{X: 3, Y: 4}, 0)
			}
			checkWindOf(t, append(slices.Clone(list), impl.Point{X: n}), impl.Point{X: 3, Y: 4}, 0)
			checkWindOf(t, append(slices.Clone(list), impl.Point{Y: n}), impl.Point{X: 3, Y: 4}, 0)
		}
	}
	list := around(-20, -20, 20, 20)
	for _, n := range []int{-boxFar, boxFar} {
		for place := range list {
			wide := slices.Clone(list)
			wide[place].X = n
			checkWindOf(t, wide, impl.Point{X: 3, Y: 4}, windByCrossings(wide, impl.Point{X: 3, Y: 4}))
			wide = slices.Clone(list)
			wide[place].Y = n
			checkWindOf(t, wide, impl.Point{X: 3, Y: 4}, windByCrossings(wide, impl.Point{X: 3, Y: 4}))
		}
	}
}

// A point beyond the limit is around by nothing, though edges right of it would count.
func TestWindOfOfWrongPoint(t *testing.T) {
	zigzag := placesOf(-20, -20, 20, -20, 20, 20)
	for _, n := range pastReach {
		for _, p := range []impl.Point{{X: n}, {Y: n}, {X: n, Y: n}, {X: n, Y: -n}, {X: 3, Y: n}, {X: n, Y: 4}} {
			for _, list := range [][]impl.Point{nil, placesOf(1, 1), placesOf(1, 1, 5, 9), zigzag, around(-boxFar, -boxFar, boxFar, boxFar), around(-1<<60, -1<<60, 1<<60, 1<<60), around(math.MinInt, math.MinInt, math.MaxInt, math.MaxInt)} {
				checkWindOf(t, list, p, 0)
			}
		}
	}
}

func TestCoversWithoutLines(t *testing.T) {
	for _, lines := range [][][]impl.Point{nil, {}, {nil}, {{}}, {nil, {}, nil}, {placesOf(0, 0)}, {placesOf(0, 0, 9, 9), nil, placesOf(3, 3)}} {
		for _, p := range pointsWithin(-2, 4) {
			checkCovers(t, lines, false, p, false)
			checkCovers(t, lines, true, p, false)
		}
	}
}

// One and several lines, by how often all of them together go around p.
func TestCoversSums(t *testing.T) {
	ring := around(0, 0, 20, 20)
	back := backwards(ring)
	twice := slices.Concat(ring, ring)
	aside := around(100, 0, 120, 20)
	for _, c := range []struct {
		lines      [][]impl.Point
		full, even bool
	}{
		{[][]impl.Point{aside}, false, false},
		{[][]impl.Point{ring}, true, true},
		{[][]impl.Point{back}, true, true},
		{[][]impl.Point{twice}, true, false},
		{[][]impl.Point{backwards(twice)}, true, false},
		{[][]impl.Point{slices.Concat(ring, twice)}, true, true},
		{[][]impl.Point{ring, back}, false, false},
		{[][]impl.Point{ring, ring}, true, false},
		{[][]impl.Point{back, back}, true, false},
		{[][]impl.Point{ring, ring, ring}, true, true},
		{[][]impl.Point{back, back, back}, true, true},
		{[][]impl.Point{twice, ring}, true, true},
		{[][]impl.Point{twice, back}, true, true},
		{[][]impl.Point{twice, back, back}, false, false},
		{[][]impl.Point{back, twice, twice}, true, true},
		{[][]impl.Point{aside, ring, aside}, true, true},
		{[][]impl.Point{aside, nil, ring, back, aside}, false, false},
		{slices.Repeat([][]impl.Point{ring}, 100), true, false},
		{slices.Repeat([][]impl.Point{back}, 101), true, true},
	} {
		checkCovers(t, c.lines, false, impl.Point{X: 7, Y: 8}, c.full)
		checkCovers(t, c.lines, true, impl.Point{X: 7, Y: 8}, c.even)
		for _, p := range placesOf(-1, 8, 20, 8, 7, -1, 7, 20) {
			checkCovers(t, c.lines, false, p, false)
			checkCovers(t, c.lines, true, p, false)
		}
	}
}

// A line with a number out of its limits counts for nothing; the others count on.
func TestCoversWithAWrongLine(t *testing.T) {
	ring := around(0, 0, 20, 20)
	p := impl.Point{X: 7, Y: 8}
	for _, n := range pastReach {
		for place := range ring {
			wide, high := slices.Clone(ring), slices.Clone(ring)
			wide[place].X, high[place].Y = n, n
			for _, wrong := range [][]impl.Point{wide, high} {
				checkCovers(t, [][]impl.Point{wrong}, false, p, false)
				checkCovers(t, [][]impl.Point{wrong, ring}, false, p, true)
				checkCovers(t, [][]impl.Point{ring, wrong}, true, p, true)
				checkCovers(t, [][]impl.Point{ring, wrong, ring}, false, p, true)
				checkCovers(t, [][]impl.Point{ring, wrong, ring}, true, p, false)
				checkCovers(t, [][]impl.Point{ring, wrong, backwards(ring)}, false, p, false)
				checkCovers(t, [][]impl.Point{wrong, wrong, backwards(ring)}, false, p, true)
			}
		}
	}
}

func TestCoversOfWrongPoint(t *testing.T) {
	lines := [][]impl.Point{around(-boxFar, -boxFar, boxFar, boxFar)}
	for _, even := range []bool{false, true} {
		for _, p := range placesOf(0, 0, -boxFar, -boxFar, boxFar-1, boxFar-1, -boxFar, boxFar-1) {
			checkCovers(t, lines, even, p, true)
		}
		for _, n := range pastReach {
			for _, p := range []impl.Point{{X: n}, {Y: n}, {X: n, Y: n}, {X: n, Y: 5}, {X: 5, Y: n}} {
				checkCovers(t, lines, even, p, false)
				checkCovers(t, [][]impl.Point{around(math.MinInt, math.MinInt, math.MaxInt, math.MaxInt)}, even, p, false)
				checkCovers(t, nil, even, p, false)
			}
		}
	}
}

func TestCoversManyLines(t *testing.T) {
	shapes := [][]impl.Point{around(0, 0, 4, 4), placesOf(0, 0, 5, 2, 1, 5), backwards(around(1, 1, 3, 5)), placesOf(4, 0, 0, 4, 4, 4, 0, 0)}
	for _, a := range shapes {
		for _, b := range shapes {
			for _, c := range shapes {
				lines := [][]impl.Point{a, b, c}
				for _, p := range pointsWithin(-1, 6) {
					checkCovers(t, lines, false, p, coversByCrossings(lines, false, p))
					checkCovers(t, lines, true, p, coversByCrossings(lines, true, p))
				}
			}
		}
	}
}

// Squares here and there, left of 0 and above 0 too, and those at the limits.
var fewSquares = placesOf(0, 0, 1, 0, 0, 1, 7, 3, -1, 0, 0, -1, -1, -1, -5, 9, 11, -2, 2000, 0, 0, 2000, -2000, 0, 0, -2000, 2000, 2000, -2000, -2000, 2000, -2000, -2000, 2000, 1999, -1999)

// A small box around each of those of the four points that these bits name.
func boxesOfBits(square impl.Point, bits int) [][]impl.Point {
	lines := [][]impl.Point{}
	for i, at := range placesOf(64, 64, 192, 64, 64, 192, 192, 192) {
		if bits>>i&1 == 1 {
			x, y := 256*square.X+at.X, 256*square.Y+at.Y
			lines = append(lines, around(x, y, x+1, y+1))
		}
	}
	return lines
}

// Each of the four points alone, none, all of them, and all others together.
func TestMaskAtEachOfThePoints(t *testing.T) {
	for _, square := range fewSquares {
		for bits := range 16 {
			lines := boxesOfBits(square, bits)
			for _, even := range []bool{false, true} {
				checkMaskAt(t, lines, even, square.X, square.Y, bits)
				for _, step := range placesOf(1, 0, -1, 0, 0, 1, 0, -1) {
					checkMaskAt(t, lines, even, square.X+step.X, square.Y+step.Y, 0)
				}
			}
			checkMaskAt(t, slices.Concat(lines, lines), false, square.X, square.Y, bits)
			checkMaskAt(t, slices.Concat(lines, lines), true, square.X, square.Y, 0)
		}
	}
}

// Boxes all around a point but for the point itself: none of the eight has it.
func TestMaskAtBesideThePoints(t *testing.T) {
	for _, square := range fewSquares {
		for _, at := range placesOf(64, 64, 192, 64, 64, 192, 192, 192) {
			for _, step := range pointsWithin(-1, 1) {
				if step != (impl.Point{}) {
					x, y := 256*square.X+at.X+step.X, 256*square.Y+at.Y+step.Y
					checkMaskAt(t, [][]impl.Point{around(x, y, x+1, y+1)}, false, square.X, square.Y, 0)
				}
			}
		}
	}
}

// What is more than half of the square, from each side, and strips that have two of the points.
func TestMaskAtWrittenOut(t *testing.T) {
	for _, square := range fewSquares {
		x, y := 256*square.X, 256*square.Y
		for _, c := range []struct{ x0, y0, x1, y1, want int }{
			{0, 0, 256, 256, 15}, {0, 0, 128, 256, 5}, {128, 0, 256, 256, 10}, {0, 0, 256, 128, 3}, {0, 128, 256, 256, 12},
			{0, 0, 128, 128, 1}, {128, 0, 256, 128, 2}, {0, 128, 128, 256, 4}, {128, 128, 256, 256, 8},
			{64, 64, 193, 193, 15}, {64, 64, 192, 192, 1}, {65, 64, 193, 193, 10}, {64, 65, 193, 193, 12}, {65, 65, 193, 193, 8}, {64, 64, 192, 193, 5}, {64, 64, 193, 192, 3},
			{65, 65, 192, 192, 0}, {0, 0, 64, 256, 0}, {0, 0, 256, 64, 0}, {193, 0, 256, 256, 0}, {0, 193, 256, 256, 0}, {-500, -500, 0, 0, 0}, {256, 256, 900, 900, 0},
			{-900, -900, 900, 900, 15}, {-900, 100, 900, 200, 12}, {100, -900, 200, 900, 10},
		} {
			line := around(x+c.x0, y+c.y0, x+c.x1, y+c.y1)
			for _, even := range []bool{false, true} {
				checkMaskAt(t, [][]impl.Point{line}, even, square.X, square.Y, c.want)
				checkMaskAt(t, [][]impl.Point{backwards(line)}, even, square.X, square.Y, c.want)
			}
		}
	}
}

// A ring: with even it has a hole where two lines lie over each other, else where they go two ways.
func TestMaskAtEvenAndNot(t *testing.T) {
	outer, inner := around(0, 0, 256, 256), around(0, 0, 128, 256)
	checkMaskAt(t, [][]impl.Point{outer, inner}, false, 0, 0, 15)
	checkMaskAt(t, [][]impl.Point{outer, inner}, true, 0, 0, 10)
	checkMaskAt(t, [][]impl.Point{outer, backwards(inner)}, false, 0, 0, 10)
	checkMaskAt(t, [][]impl.Point{outer, backwards(inner)}, true, 0, 0, 10)
	checkMaskAt(t, [][]impl.Point{outer, inner, inner}, true, 0, 0, 15)
	checkMaskAt(t, [][]impl.Point{slices.Concat(outer, outer[:1], inner, inner[:1])}, true, 0, 0, 10)
	checkMaskAt(t, [][]impl.Point{slices.Concat(outer, outer[:1], inner, inner[:1])}, false, 0, 0, 15)
}

// An edge just through a point: on a left or an upper edge the point is in, on a right or a lower one it is not.
func TestMaskAtEdgesThroughAPoint(t *testing.T) {
	for _, square := range fewSquares {
		x, y := 256*square.X, 256*square.Y
		for _, c := range []struct {
			list []impl.Point
			want int
		}{
			{around(64, 0, 100, 100), 1}, {around(0, 0, 64, 100), 0}, {around(0, 64, 100, 100), 1}, {around(0, 0, 100, 64), 0},
			{around(192, 0, 200, 256), 10}, {around(150, 0, 192, 256), 0}, {around(0, 192, 256, 200), 12}, {around(0, 150, 256, 192), 0},
			{placesOf(0, 0, 256, 256, 0, 256), 4}, {placesOf(0, 0, 256, 0, 256, 256), 11}, {placesOf(0, 256, 256, 0, 256, 256), 14}, {placesOf(0, 0, 256, 0, 0, 256), 1},
			{placesOf(64, 64, 256, 0, 256, 256), 11}, {placesOf(0, 0, 64, 64, 0, 128), 0}, {placesOf(0, 0, 65, 64, 0, 128), 1},
		} {
			list := []impl.Point{}
			for _, p := range c.list {
				list = append(list, impl.Point{X: x + p.X, Y: y + p.Y})
			}
			checkMaskAt(t, [][]impl.Point{list}, false, square.X, square.Y, c.want)
			checkMaskAt(t, [][]impl.Point{backwards(list)}, true, square.X, square.Y, c.want)
		}
	}
}

func TestMaskAtOfWrongSquares(t *testing.T) {
	whole := [][]impl.Point{around(-boxFar, -boxFar, boxFar, boxFar)}
	for _, even := range []bool{false, true} {
		for _, square := range fewSquares {
			checkMaskAt(t, whole, even, square.X, square.Y, 15)
			for _, n := range wrongSquares {
				checkMaskAt(t, whole, even, n, square.Y, 0)
				checkMaskAt(t, whole, even, square.X, n, 0)
			}
		}
		for _, a := range wrongSquares {
			for _, b := range wrongSquares {
				checkMaskAt(t, whole, even, a, b, 0)
			}
		}
	}
}

func TestMaskAtWithoutLines(t *testing.T) {
	for _, lines := range [][][]impl.Point{nil, {}, {nil, {}}, {placesOf(64, 64)}, {placesOf(0, 0, 256, 256)}, {around(0, 0, boxFar+1, 256)}} {
		for _, square := range fewSquares {
			checkMaskAt(t, lines, false, square.X, square.Y, 0)
			checkMaskAt(t, lines, true, square.X, square.Y, 0)
		}
	}
}

func TestMaskAtOfStrokesAndCurves(t *testing.T) {
	paths := []string{"M -600 -300 C 900 -900 -700 1200 500 600", "M 0 0 Q 700 -100 300 800 Z M -200 -500 L 500 500 L -500 400 Z", "M -700 0 L 700 130 M 10 -700 L -90 700"}
	for _, text := range paths {
		flat := impl.FlatOf(pathOf(t, text))
		for _, lines := range [][][]impl.Point{flat, impl.StrokeOf(flat, 100), impl.StrokeOf(flat, 333)} {
			for _, square := range pointsWithin(-4, 4) {
				for _, even := range []bool{false, true} {
					checkMaskAt(t, lines, even, square.X, square.Y, maskByCrossings(lines, even, square.X, square.Y))
				}
			}
		}
	}
}

func TestCountOfEachNumber(t *testing.T) {
	for bits, want := range []int{0, 1, 1, 2, 1, 2, 2, 3, 1, 2, 2, 3, 2, 3, 3, 4} {
		checkCountOf(t, bits, want)
	}
}

func TestCountOfWhatIsWrong(t *testing.T) {
	for _, bits := range []int{math.MinInt, math.MinInt + 1, -1 << 32, -16, -15, -2, -1, 16, 17, 31, 1<<32 + 1, 1 << 62, math.MaxInt - 1, math.MaxInt} {
		checkCountOf(t, bits, 0)
	}
}

func linesOfPromise10(t *testing.T) [][]impl.Point {
	t.Helper()
	lines := [][]impl.Point{
		placesOf(3, 3), placesOf(-4, 2, 5, 6), around(-3, -2, 4, 1), slices.Repeat(around(0, 0, 5, 5), 3),
		placesOf(0, -10, 6, 8, -9, -3, 9, -3, -6, 8), placesOf(0, 0, 7, 7, 7, 0, 0, 7), placesOf(1, 1, 1, 9, 1, 4), placesOf(-5, 3, 0, 3, 8, 3),
	}
	for _, list := range rightLists(5) {
		lines = append(lines, list)
	}
	for _, p := range []string{"M -6 -3 C 9 -9 -7 12 5 6", "M 0 0 Q 7 -1 3 8 Z"} {
		lines = append(lines, impl.FlatOf(pathOf(t, p))...)
	}
	return lines
}

// The places just outside of a box, at its corners and along its sides, and some that are far from it.
func placesOutside(b impl.Box) []impl.Point {
	points := []impl.Point{}
	xs := []int{-boxFar, b.X0 - 1, b.X0, (b.X0 + b.X1) / 2, b.X1 - 1, b.X1, b.X1 + 1, boxFar}
	ys := []int{-boxFar, b.Y0 - 1, b.Y0, (b.Y0 + b.Y1) / 2, b.Y1 - 1, b.Y1, b.Y1 + 1, boxFar}
	for _, x := range xs {
		for _, y := range ys {
			if p := (impl.Point{X: x, Y: y}); !hasPoint(b, p) {
				points = append(points, p)
			}
		}
	}
	return points
}

func TestPromise10WhatLiesOutsideIsNotCovered(t *testing.T) {
	for _, line := range linesOfPromise10(t) {
		for _, p := range placesOutside(impl.BoxOf(line)) {
			checkWindOf(t, line, p, 0)
			checkCovers(t, [][]impl.Point{line}, false, p, false)
			checkCovers(t, [][]impl.Point{line}, true, p, false)
		}
	}
}

func TestPromise10SquaresOutsideHaveNoPoints(t *testing.T) {
	for _, line := range linesOfPromise10(t) {
		squares := impl.Squares(impl.BoxOf(line))
		for _, p := range placesOutside(squares) {
			checkMaskAt(t, [][]impl.Point{line}, false, p.X, p.Y, 0)
			checkMaskAt(t, [][]impl.Point{line}, true, p.X, p.Y, 0)
		}
	}
}

// Boxes whose sides are just at the edge of a square, one unit in and one unit out.
func TestPromise10SquaresWithinAFilledBoxHaveAllPoints(t *testing.T) {
	sides := []int{-513, -512, -511, -256, -1, 0, 1, 255, 256, 257, 700}
	for _, x0 := range sides {
		for _, y0 := range sides {
			for _, x1 := range sides {
				for _, y1 := range []int{-256, 0, 257, 512} {
					b := impl.Box{X0: x0, Y0: y0, X1: x1, Y1: y1}
					lines := impl.FlatOf(impl.RectPath(b))
					for _, square := range pointsWithin(-3, 3) {
						checkFilled(t, lines, b, square)
					}
				}
			}
		}
	}
	for _, far := range []int{2000 * 256, impl.Far} {
		b := impl.Box{X0: -far, Y0: -far, X1: far, Y1: far}
		lines := impl.FlatOf(impl.RectPath(b))
		for _, square := range fewSquares {
			checkFilled(t, lines, b, square)
		}
	}
}

func checkFilled(t *testing.T, lines [][]impl.Point, b impl.Box, square impl.Point) {
	t.Helper()
	left, top := 256*square.X, 256*square.Y
	within := b.X0 <= left && b.Y0 <= top && left+256 <= b.X1 && top+256 <= b.Y1
	apart := left+256 <= b.X0 || b.X1 <= left || top+256 <= b.Y0 || b.Y1 <= top
	for _, even := range []bool{false, true} {
		got := impl.MaskAt(lines, even, square.X, square.Y)
		if within && got != 15 || apart && got != 0 {
			t.Errorf("MaskAt(%v, %v, %d, %d) = %d of the box %v", lines, even, square.X, square.Y, got, b)
		}
	}
}

// Neither the points, nor the list of lists, nor the spare room behind them is written into.
func TestSamplesLeaveTheirListsAsTheyWere(t *testing.T) {
	room := append(around(0, 0, 256, 256), placesOf(900, 901, 902, 903)...)
	before := slices.Clone(room)
	all := [][]impl.Point{room[:4], room[1:4], room[:4], room[4:6]}
	lines := all[:2]
	for _, even := range []bool{false, true} {
		for _, n := range []int{0, 1, -1, 2000, 2001, math.MinInt} {
			impl.WindOf(room[:4], impl.Point{X: n, Y: n})
			impl.Covers(lines, even, impl.Point{X: n, Y: n})
			impl.MaskAt(lines, even, n, n)
		}
	}
	if !slices.Equal(room, before) {
		t.Errorf("the room of the points became %v", room)
	}
	if !sameLines(all, [][]impl.Point{before[:4], before[1:4], before[:4], before[4:6]}) {
		t.Errorf("the room of the lists became %v", all)
	}
}
