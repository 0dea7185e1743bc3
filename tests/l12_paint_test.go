package tests

import (
	"math"
	"math/big"
	"sort"
	"testing"

	"loop.example/g00190/impl"
)

var wrongParts = []int{math.MinInt, math.MinInt + 1, -1 << 32, -256, -255, -2, -1, 256, 257, 510, 512, 1 << 32, 1<<32 + 255, math.MaxInt - 1, math.MaxInt}

var wrongCoords = []int{math.MinInt, math.MinInt + 1, -1 << 32, -impl.Far - 2, -impl.Far - 1, impl.Far + 1, impl.Far + 2, 1 << 32, math.MaxInt - 1, math.MaxInt}

var wrongKinds = []int{math.MinInt, math.MinInt + 1, -1 << 32, -2, -1, 0, 3, 4, 255, 1<<32 + 1, 1<<32 + 2, math.MaxInt - 1, math.MaxInt}

var squareEdges = append([]int{-2000, -1999, -1000, -3, -2, -1, 0, 1, 2, 3, 17, 1000, 1999, 2000}, wrongSquares...)

// The parts of a colour one by one, so that a table may name a part by its place; A is the last one.
func colorPart(c *impl.Color, place int) *int {
	return []*int{&c.R, &c.G, &c.B, &c.A}[place]
}

// The numbers of From and To one by one.
func endOf(p *impl.Paint, place int) *int {
	return []*int{&p.From.X, &p.From.Y, &p.To.X, &p.To.Y}[place]
}

func plainOf(r int, g int, b int, a int) impl.Paint {
	return impl.Paint{Kind: impl.Plain, First: impl.Color{R: r, G: g, B: b, A: a}}
}

// From a clear black to a full colour, by the units of its ends.
func slopeFrom(x0 int, y0 int, x1 int, y1 int) impl.Paint {
	return impl.Paint{Kind: impl.Slope, Last: impl.Color{R: 200, G: 100, B: 50, A: 255}, From: impl.Point{X: x0, Y: y0}, To: impl.Point{X: x1, Y: y1}}
}

func middle(x int, y int) impl.Point {
	return impl.Point{X: 256*x + 128, Y: 256*y + 128}
}

// From the middle of a square to the middle of another one.
func slopeOfSquares(x0 int, y0 int, x1 int, y1 int) impl.Paint {
	p := slopeFrom(0, 0, 1, 1)
	p.From, p.To = middle(x0, y0), middle(x1, y1)
	return p
}

func laidByLibrary(c impl.Color) impl.Color {
	return impl.Color{R: roundByLibrary(c.R*c.A, 255), G: roundByLibrary(c.G*c.A, 255), B: roundByLibrary(c.B*c.A, 255), A: c.A}
}

// Of right slopes, by numbers without a limit.
func partByLibrary(p impl.Paint, x int, y int) int {
	at := middle(max(-2000, min(x, 2000)), max(-2000, min(y, 2000)))
	times := func(a int, b int) *big.Int { return new(big.Int).Mul(big.NewInt(int64(a)), big.NewInt(int64(b))) }
	wayX, wayY := p.To.X-p.From.X, p.To.Y-p.From.Y
	gone := times(at.X-p.From.X, wayX)
	gone.Add(gone, times(at.Y-p.From.Y, wayY))
	square := times(wayX, wayX)
	square.Add(square, times(wayY, wayY))
	gone.Lsh(gone, 8)
	// Of 0 .. 256 the greatest that fits, as no quotient down beyond these counts.
	return sort.Search(256, func(part int) bool {
		return new(big.Int).Mul(square, big.NewInt(int64(part+1))).Cmp(gone) > 0
	})
}

// Of right paints.
func colorByLibrary(p impl.Paint, x int, y int) impl.Color {
	if p.Kind == impl.Plain {
		return laidByLibrary(p.First)
	}
	part := partByLibrary(p, x, y)
	var c impl.Color
	for place := range 4 {
		first, last := *colorPart(&p.First, place), *colorPart(&p.Last, place)
		*colorPart(&c, place) = roundByLibrary((256-part)*first+part*last, 256)
	}
	return laidByLibrary(c)
}

func checkColorOk(t *testing.T, c impl.Color, want bool) {
	t.Helper()
	if got := impl.ColorOk(c); got != want {
		t.Errorf("ColorOk(%v) = %v, want %v", c, got, want)
	}
}

func checkLaid(t *testing.T, c impl.Color, want impl.Color) {
	t.Helper()
	if got := impl.Laid(c); got != want {
		t.Errorf("Laid(%v) = %v, want %v", c, got, want)
	}
}

func checkPaintOk(t *testing.T, p impl.Paint, want bool) {
	t.Helper()
	if got := impl.PaintOk(p); got != want {
		t.Errorf("PaintOk(%v) = %v, want %v", p, got, want)
	}
}

func checkPartOf(t *testing.T, p impl.Paint, x int, y int, want int) {
	t.Helper()
	if got := impl.PartOf(p, x, y); got != want {
		t.Errorf("PartOf(%v, %d, %d) = %d, want %d", p, x, y, got, want)
	}
}

func checkColorAt(t *testing.T, p impl.Paint, x int, y int, want impl.Color) {
	t.Helper()
	if got := impl.ColorAt(p, x, y); got != want {
		t.Errorf("ColorAt(%v, %d, %d) = %v, want %v", p, x, y, got, want)
	}
}

func checkIsLaid(t *testing.T, what string, c impl.Color) {
	t.Helper()
	for place := range 4 {
		if part := *colorPart(&c, place); part < 0 || part > c.A || part > 255 {
			t.Errorf("%s: %v is not laid", what, c)
		}
	}
}

func rightColors() []impl.Color {
	colors := []impl.Color{}
	for _, a := range []int{0, 1, 128, 254, 255} {
		for _, n := range []int{0, 1, 127, 128, 254, 255} {
			colors = append(colors, impl.Color{R: n, G: 255 - n, B: n / 2, A: a}, impl.Color{R: 3, G: n, B: 250, A: a}, impl.Color{R: n, G: n, B: n, A: a})
		}
	}
	return colors
}

// Each with one part that is wrong, the others as in a right one; the last ones with several.
func wrongColors() []impl.Color {
	colors := []impl.Color{}
	for place := range 4 {
		for _, wrong := range wrongParts {
			for _, c := range []impl.Color{{}, {R: 255, G: 255, B: 255, A: 255}, {R: 10, G: 20, B: 30, A: 40}} {
				*colorPart(&c, place) = wrong
				colors = append(colors, c)
			}
		}
	}
	return append(colors, impl.Color{R: -1, G: 256, B: 10, A: 255}, impl.Color{R: -1, G: -1, B: -1, A: -1}, impl.Color{R: 256, G: 256, B: 256, A: 256}, impl.Color{R: math.MinInt, G: math.MaxInt, B: math.MinInt, A: math.MaxInt})
}

// Slopes of every direction, the shortest and the longest ones, and some without a plan to them.
func rightSlopes() []impl.Paint {
	ends := [][]impl.Point{
		placesOf(128, 128, 640, 128), placesOf(640, 128, 128, 128), placesOf(128, 128, 128, 640), placesOf(128, 640, 128, 128),
		placesOf(-300, -200, 700, 900), placesOf(700, -900, -300, 200), placesOf(0, 0, 1, 0), placesOf(0, 0, 0, -1), placesOf(128, 128, 127, 129),
		placesOf(impl.Far, impl.Far, impl.Far-1, impl.Far), placesOf(-impl.Far, -impl.Far, -impl.Far, -impl.Far+1),
		placesOf(-impl.Far, -impl.Far, impl.Far, impl.Far), placesOf(impl.Far, impl.Far, -impl.Far, -impl.Far),
		placesOf(-impl.Far, impl.Far, impl.Far, -impl.Far), placesOf(impl.Far, -impl.Far, -impl.Far, impl.Far),
		placesOf(-impl.Far, 0, impl.Far, 0), placesOf(0, impl.Far, 0, -impl.Far),
		placesOf(-512000, -512000, 512000, 512000), placesOf(500000, 0, 520000, 0), placesOf(0, -500000, 0, -520000),
	}
	seed := uint32(12)
	number := func(below int) int {
		seed = seed*1664525 + 1013904223
		return int(seed>>8) % below
	}
	for range 40 {
		near, far := 4096, 2*impl.Far
		ends = append(ends, placesOf(number(near)-near/2, number(near)-near/2, number(near)-near/2, number(near)-near/2))
		ends = append(ends, placesOf(number(far)-impl.Far, number(far)-impl.Far, number(far)-impl.Far, number(far)-impl.Far))
	}
	slopes := []impl.Paint{}
	for _, pair := range ends {
		p := impl.Paint{Kind: impl.Slope, From: pair[0], To: pair[1]}
		for place := range 4 {
			*colorPart(&p.First, place), *colorPart(&p.Last, place) = number(256), number(256)
		}
		slopes = append(slopes, p)
	}
	return slopes
}

func rightPaints() []impl.Paint {
	paints := rightSlopes()
	for _, c := range rightColors() {
		paints = append(paints, impl.Paint{Kind: impl.Plain, First: c})
	}
	return paints
}

// A Plain paint with something that only a Slope has.
func plainsWithMore() []impl.Paint {
	paints := []impl.Paint{}
	for _, more := range []int{math.MinInt, -1, 1, 255, impl.Far, math.MaxInt} {
		for place := range 4 {
			p, q := plainOf(10, 20, 30, 40), plainOf(0, 0, 0, 0)
			*colorPart(&p.Last, place), *endOf(&q, place) = more, more
			paints = append(paints, p, q)
			p, q = plainOf(0, 0, 0, 0), plainOf(255, 255, 255, 255)
			*colorPart(&p.Last, place), *endOf(&q, place) = more, more
			paints = append(paints, p, q)
		}
		// Ends that are the same are not zero for that.
		same := plainOf(10, 20, 30, 40)
		same.From = impl.Point{X: more, Y: more}
		same.To = same.From
		paints = append(paints, same)
	}
	return paints
}

func paintsWithWrongColors() []impl.Paint {
	paints := []impl.Paint{}
	for _, wrong := range wrongColors() {
		first, last := slopeFrom(0, 0, 300, 400), slopeFrom(0, 0, 300, 400)
		first.First, last.Last = wrong, wrong
		paints = append(paints, first, last, impl.Paint{Kind: impl.Plain, First: wrong})
	}
	return paints
}

func slopesWithWrongEnds() []impl.Paint {
	paints := []impl.Paint{}
	for place := range 4 {
		for _, wrong := range wrongCoords {
			p := slopeFrom(1, 2, 300, 400)
			*endOf(&p, place) = wrong
			paints = append(paints, p)
		}
	}
	for _, p := range rightPoints() {
		paints = append(paints, slopeFrom(p.X, p.Y, p.X, p.Y))
	}
	return paints
}

func paintsOfWrongKinds() []impl.Paint {
	paints := []impl.Paint{}
	for _, kind := range wrongKinds {
		plain, slope := plainOf(10, 20, 30, 40), slopeFrom(0, 0, 300, 400)
		plain.Kind, slope.Kind = kind, kind
		paints = append(paints, plain, slope, impl.Paint{Kind: kind})
	}
	return paints
}

func wrongPaints() []impl.Paint {
	paints := append(plainsWithMore(), paintsWithWrongColors()...)
	paints = append(paints, slopesWithWrongEnds()...)
	return append(paints, paintsOfWrongKinds()...)
}

func TestPaintConstants(t *testing.T) {
	if impl.Plain != 1 || impl.Slope != 2 {
		t.Errorf("Plain %d and Slope %d, want 1 and 2", impl.Plain, impl.Slope)
	}
}

func TestColorOkPartByPart(t *testing.T) {
	for place := range 4 {
		for _, others := range []int{0, 1, 128, 254, 255} {
			for _, right := range []int{0, 1, 127, 128, 254, 255} {
				c := impl.Color{R: others, G: others, B: others, A: others}
				*colorPart(&c, place) = right
				checkColorOk(t, c, true)
			}
			for _, wrong := range wrongParts {
				c := impl.Color{R: others, G: others, B: others, A: others}
				*colorPart(&c, place) = wrong
				checkColorOk(t, c, false)
			}
		}
	}
}

func TestColorOkOfWholes(t *testing.T) {
	// A colour need not be laid to be right.
	for _, c := range append(rightColors(), impl.Color{}, impl.Color{R: 255}, impl.Color{G: 255}, impl.Color{B: 255}, impl.Color{A: 255}) {
		checkColorOk(t, c, true)
	}
	for _, c := range wrongColors() {
		checkColorOk(t, c, false)
	}
}

func TestLaidWrittenOut(t *testing.T) {
	for _, c := range []struct{ color, want impl.Color }{
		{impl.Color{}, impl.Color{}},
		{impl.Color{R: 255, G: 255, B: 255}, impl.Color{}},
		{impl.Color{R: 1, G: 2, B: 3, A: 255}, impl.Color{R: 1, G: 2, B: 3, A: 255}},
		{impl.Color{R: 255, G: 128, B: 127, A: 128}, impl.Color{R: 128, G: 64, B: 64, A: 128}},
		{impl.Color{R: 255, G: 1, B: 0, A: 128}, impl.Color{R: 128, G: 1, B: 0, A: 128}},
		{impl.Color{R: 255, G: 1, B: 0, A: 127}, impl.Color{R: 127, G: 0, B: 0, A: 127}},
		{impl.Color{R: 127, G: 128, B: 255, A: 1}, impl.Color{R: 0, G: 1, B: 1, A: 1}},
		{impl.Color{R: 254, G: 127, B: 128, A: 254}, impl.Color{R: 253, G: 127, B: 127, A: 254}},
		{impl.Color{R: 200, G: 100, B: 50, A: 51}, impl.Color{R: 40, G: 20, B: 10, A: 51}},
	} {
		checkLaid(t, c.color, c.want)
	}
}

func TestLaidOfAllEdges(t *testing.T) {
	edges := []int{0, 1, 127, 128, 254, 255}
	for _, a := range []int{0, 1, 128, 254, 255} {
		for _, r := range edges {
			for _, g := range edges {
				for _, b := range edges {
					c := impl.Color{R: r, G: g, B: b, A: a}
					checkLaid(t, c, laidByLibrary(c))
					checkIsLaid(t, "Laid", impl.Laid(c))
				}
			}
		}
	}
}

func TestLaidOfEachPartByEachA(t *testing.T) {
	for a := range 256 {
		for n := range 256 {
			c := impl.Color{R: n, G: 255 - n, B: n ^ 85, A: a}
			checkLaid(t, c, laidByLibrary(c))
			checkIsLaid(t, "Laid", impl.Laid(c))
		}
	}
}

func TestLaidOfWhatIsNotRight(t *testing.T) {
	for _, c := range wrongColors() {
		checkLaid(t, c, impl.Color{})
	}
}

func TestPaintOkOfWhatIsRight(t *testing.T) {
	for _, p := range rightPaints() {
		checkPaintOk(t, p, true)
	}
	checkPaintOk(t, impl.Paint{Kind: impl.Plain}, true)
	checkPaintOk(t, impl.Paint{Kind: impl.Slope, To: impl.Point{X: 1}}, true)
	checkPaintOk(t, impl.Paint{Kind: impl.Slope, From: impl.Point{Y: -1}}, true)
}

func TestPaintOkPlainHasNothingElse(t *testing.T) {
	for _, p := range plainsWithMore() {
		checkPaintOk(t, p, false)
	}
	both := slopeFrom(0, 0, 300, 400)
	both.Kind = impl.Plain
	checkPaintOk(t, both, false)
}

func TestPaintOkOfColors(t *testing.T) {
	for _, p := range paintsWithWrongColors() {
		checkPaintOk(t, p, false)
	}
	for _, first := range rightColors() {
		for _, last := range rightColors() {
			checkPaintOk(t, impl.Paint{Kind: impl.Slope, First: first, Last: last, To: impl.Point{X: 5, Y: -5}}, true)
		}
	}
}

func TestPaintOkAtTheLimitsOfPoints(t *testing.T) {
	for place := range 4 {
		for _, n := range farAndPast {
			p := slopeFrom(7, 8, 9, 10)
			*endOf(&p, place) = n
			checkPaintOk(t, p, withinFar(n))
		}
	}
}

func TestPaintOkOfEndsThatAreAlike(t *testing.T) {
	for _, from := range pointsWithin(-2, 2) {
		for _, to := range pointsWithin(-2, 2) {
			checkPaintOk(t, slopeFrom(from.X, from.Y, to.X, to.Y), from != to)
		}
	}
	for _, end := range []int{-impl.Far, impl.Far} {
		checkPaintOk(t, slopeFrom(end, end, end, end), false)
		checkPaintOk(t, slopeFrom(end, end, end, -end), true)
		checkPaintOk(t, slopeFrom(end, end, -end, end), true)
	}
}

func TestPaintOkOfWrongKinds(t *testing.T) {
	for _, p := range paintsOfWrongKinds() {
		checkPaintOk(t, p, false)
	}
	checkPaintOk(t, impl.Paint{}, false)
}

func TestPartOfWrittenOut(t *testing.T) {
	for _, c := range []struct{ p, at, part []int }{
		{[]int{128, 128, 640, 128}, []int{-2, -1, 0, 1, 2, 3, 4}, []int{0, 0, 0, 128, 256, 256, 256}},
		{[]int{640, 128, 128, 128}, []int{-2, -1, 0, 1, 2, 3, 4}, []int{256, 256, 256, 128, 0, 0, 0}},
		{[]int{0, 0, 1024, 0}, []int{-1, 0, 1, 2, 3, 4}, []int{0, 32, 96, 160, 224, 256}},
		{[]int{1024, 0, 0, 0}, []int{-1, 0, 1, 2, 3, 4}, []int{256, 224, 160, 96, 32, 0}},
		{[]int{0, 0, 768, 0}, []int{-1, 0, 1, 2, 3}, []int{0, 42, 128, 213, 256}},
		{[]int{0, 0, 256, 0}, []int{-1, 0, 1}, []int{0, 128, 256}},
		{[]int{127, 0, 128, 0}, []int{-1, 0, 1}, []int{0, 256, 256}},
		{[]int{126, 0, 129, 0}, []int{-1, 0, 1}, []int{0, 170, 256}},
		{[]int{129, 0, 126, 0}, []int{-1, 0, 1}, []int{256, 85, 0}},
	} {
		for i, n := range c.at {
			for across := -3; across <= 3; across++ {
				checkPartOf(t, slopeFrom(c.p[0], c.p[1], c.p[2], c.p[3]), n, across, c.part[i])
				// What goes to the right or to the left goes down or up, with X and Y the other way round.
				checkPartOf(t, slopeFrom(c.p[1], c.p[0], c.p[3], c.p[2]), across, n, c.part[i])
			}
		}
	}
}

func TestPartOfAslant(t *testing.T) {
	for _, c := range []struct {
		p          impl.Paint
		x, y, want int
	}{
		{slopeOfSquares(0, 0, 2, 2), 0, 0, 0},
		{slopeOfSquares(0, 0, 2, 2), 1, 1, 128},
		{slopeOfSquares(0, 0, 2, 2), 1, 0, 64},
		{slopeOfSquares(0, 0, 2, 2), 0, 1, 64},
		{slopeOfSquares(0, 0, 2, 2), 2, 0, 128},
		{slopeOfSquares(0, 0, 2, 2), 2, 1, 192},
		{slopeOfSquares(0, 0, 2, 2), 2, 2, 256},
		{slopeOfSquares(0, 0, 2, 2), 3, 2, 256},
		{slopeOfSquares(0, 0, 2, 2), 1, -1, 0},
		{slopeOfSquares(0, 0, 2, 2), 0, -1, 0},
		{slopeOfSquares(2, 2, 0, 0), 2, 1, 64},
		{slopeOfSquares(0, 2, 2, 0), 1, 2, 64},
		{slopeOfSquares(0, 2, 2, 0), 0, 0, 128},
		{slopeOfSquares(0, 0, 3, 4), 1, 0, 30},
		{slopeOfSquares(0, 0, 3, 4), 0, 1, 40},
		{slopeOfSquares(0, 0, 3, 4), 4, -3, 0},
		{slopeOfSquares(0, 0, 3, 4), -4, 4, 40},
		{slopeOfSquares(0, 0, 3, 4), 3, 3, 215},
		{slopeOfSquares(-1, -2, -4, 2), -2, -1, 71},
	} {
		checkPartOf(t, c.p, c.x, c.y, c.want)
	}
}

func TestPartOfIsDown(t *testing.T) {
	for _, c := range []struct {
		p          impl.Paint
		x, y, want int
	}{
		// Just below and just above a half of the longest slope.
		{slopeFrom(-impl.Far, -impl.Far, impl.Far, impl.Far), -1, -1, 127},
		{slopeFrom(-impl.Far, -impl.Far, impl.Far, impl.Far), 0, 0, 128},
		{slopeFrom(-impl.Far, -impl.Far, impl.Far, impl.Far), -1, 0, 128},
		{slopeFrom(impl.Far, impl.Far, -impl.Far, -impl.Far), 0, 0, 127},
		{slopeFrom(impl.Far, impl.Far, -impl.Far, -impl.Far), -1, -1, 128},
		// Less than one part beyond the begin: -1 down, which is taken to 0.
		{slopeFrom(129, 128, 1129, 128), 0, 0, 0},
		{slopeFrom(128, 129, 128, 1129), 0, 0, 0},
		{slopeFrom(130, 127, 1130, 1128), 0, 0, 0},
		{slopeFrom(127, 128, -impl.Far, 128), 0, 0, 0},
		// Less than one part behind the begin, and just one.
		{slopeFrom(125, 128, 1149, 128), 0, 0, 0},
		{slopeFrom(124, 128, 1148, 128), 0, 0, 1},
		// Less than one part ahead of the end.
		{slopeFrom(-872, 128, 129, 128), 0, 0, 255},
		{slopeFrom(128, -872, 128, 129), 0, 0, 255},
	} {
		checkPartOf(t, c.p, c.x, c.y, c.want)
	}
}

func TestPartOfAtTheLimitsOfSquares(t *testing.T) {
	for _, c := range []struct {
		p          impl.Paint
		x, y, want int
	}{
		{slopeFrom(500000, 0, 520000, 0), 2000, 0, 155},
		{slopeFrom(500000, 0, 520000, 0), 1999, 0, 151},
		{slopeFrom(-520000, 0, -500000, 0), -2000, 0, 104},
		{slopeFrom(-520000, 0, -500000, 0), -1999, 0, 107},
		{slopeFrom(0, 500000, 0, 520000), 0, 2000, 155},
		{slopeFrom(0, -520000, 0, -500000), 0, -2000, 104},
		{slopeFrom(-impl.Far, 0, impl.Far, 0), 2000, 0, 135},
		{slopeFrom(-impl.Far, 0, impl.Far, 0), -2000, 0, 120},
	} {
		checkPartOf(t, c.p, c.x, c.y, c.want)
	}
	for _, p := range rightSlopes() {
		for _, n := range wrongSquares {
			limit := max(-2000, min(n, 2000))
			for _, other := range []int{-2000, -1, 0, 5, 2000} {
				checkPartOf(t, p, n, other, impl.PartOf(p, limit, other))
				checkPartOf(t, p, other, n, impl.PartOf(p, other, limit))
			}
			checkPartOf(t, p, n, n, impl.PartOf(p, limit, limit))
			checkPartOf(t, p, n, -2001, impl.PartOf(p, limit, -2000))
		}
	}
}

func TestPartOfByNumbersWithoutALimit(t *testing.T) {
	for _, p := range rightSlopes() {
		for _, x := range squareEdges {
			for _, y := range squareEdges {
				checkPartOf(t, p, x, y, partByLibrary(p, x, y))
			}
		}
	}
}

func TestPartOfShortSlopes(t *testing.T) {
	for _, from := range pointsWithin(126, 130) {
		for _, to := range pointsWithin(126, 130) {
			if from == to {
				continue
			}
			p := slopeFrom(from.X, from.Y, to.X, to.Y)
			for _, at := range pointsWithin(-1, 2) {
				checkPartOf(t, p, at.X, at.Y, partByLibrary(p, at.X, at.Y))
			}
		}
	}
}

func TestPartOfPlain(t *testing.T) {
	for _, c := range rightColors() {
		for _, n := range squareEdges {
			checkPartOf(t, impl.Paint{Kind: impl.Plain, First: c}, n, 1, 0)
			checkPartOf(t, impl.Paint{Kind: impl.Plain, First: c}, 1, n, 0)
		}
	}
}

func TestPartOfWhatIsNotRight(t *testing.T) {
	for _, p := range wrongPaints() {
		for _, at := range placesOf(0, 0, 1, 1, 5, 9, 2000, 2000, -2000, -2000, math.MinInt, math.MaxInt) {
			checkPartOf(t, p, at.X, at.Y, 0)
		}
	}
}

func TestColorAtOfPlain(t *testing.T) {
	for _, c := range rightColors() {
		want := laidByLibrary(c)
		for _, x := range squareEdges {
			for _, y := range []int{math.MinInt, -2001, 0, 7, 2000, math.MaxInt} {
				checkColorAt(t, impl.Paint{Kind: impl.Plain, First: c}, x, y, want)
			}
		}
	}
	checkColorAt(t, plainOf(255, 128, 127, 128), 3, 4, impl.Color{R: 128, G: 64, B: 64, A: 128})
}

func TestColorAtOfSlopes(t *testing.T) {
	full := func(r int, g int, b int) impl.Color { return impl.Color{R: r, G: g, B: b, A: 255} }
	for _, c := range []struct {
		first, last impl.Color
		want        []impl.Color
	}{
		{full(0, 0, 0), full(200, 100, 52), []impl.Color{full(0, 0, 0), full(0, 0, 0), full(50, 25, 13), full(100, 50, 26), full(150, 75, 39), full(200, 100, 52), full(200, 100, 52)}},
		// First's part is greater than Last's.
		{full(200, 100, 52), full(0, 0, 100), []impl.Color{full(200, 100, 52), full(200, 100, 52), full(150, 75, 64), full(100, 50, 76), full(50, 25, 88), full(0, 0, 100), full(0, 0, 100)}},
		// A half is left in the middle, which goes up whichever of both is the greater.
		{full(0, 1, 255), full(1, 0, 254), []impl.Color{full(0, 1, 255), full(0, 1, 255), full(0, 1, 255), full(1, 1, 255), full(1, 0, 254), full(1, 0, 254), full(1, 0, 254)}},
		// At the quarters a half is left.
		{full(0, 2, 10), full(2, 0, 16), []impl.Color{full(0, 2, 10), full(0, 2, 10), full(1, 2, 12), full(1, 1, 13), full(2, 1, 15), full(2, 0, 16), full(2, 0, 16)}},
		// A goes from 0 to 255; what is between is laid after it is mixed.
		{impl.Color{R: 255}, full(0, 255, 0), []impl.Color{{}, {}, {R: 48, G: 16, A: 64}, {R: 64, G: 64, A: 128}, {R: 48, G: 143, A: 191}, full(0, 255, 0), full(0, 255, 0)}},
		// And back.
		{full(255, 255, 255), impl.Color{}, []impl.Color{full(255, 255, 255), full(255, 255, 255), {R: 143, G: 143, B: 143, A: 191}, {R: 64, G: 64, B: 64, A: 128}, {R: 16, G: 16, B: 16, A: 64}, {}, {}}},
		{full(9, 8, 7), full(9, 8, 7), []impl.Color{full(9, 8, 7), full(9, 8, 7), full(9, 8, 7), full(9, 8, 7), full(9, 8, 7), full(9, 8, 7), full(9, 8, 7)}},
	} {
		p := slopeOfSquares(0, 0, 4, 0)
		p.First, p.Last = c.first, c.last
		for i, want := range c.want {
			checkColorAt(t, p, i-1, 0, want)
			checkColorAt(t, p, i-1, 77, want)
		}
	}
}

func TestColorAtFarBeyondItsEnds(t *testing.T) {
	p := slopeOfSquares(0, 0, 4, 3)
	p.First = impl.Color{R: 10, G: 250, B: 128, A: 128}
	first, last := laidByLibrary(p.First), laidByLibrary(p.Last)
	for _, far := range []int{100, 1999, 2000, 2001, 1 << 32, 1 << 55, 1 << 56, math.MaxInt - 1, math.MaxInt} {
		checkColorAt(t, p, far, far, last)
		checkColorAt(t, p, -far, -far, first)
		checkColorAt(t, p, far, -far, last)
		checkColorAt(t, p, -far, far, first)
	}
	checkColorAt(t, p, math.MinInt, math.MinInt, first)
	checkColorAt(t, p, math.MinInt, math.MaxInt, first)
	checkColorAt(t, p, math.MaxInt, math.MinInt, last)
}

func TestColorAtByNumbersWithoutALimit(t *testing.T) {
	for _, p := range rightSlopes() {
		for _, x := range squareEdges {
			for _, y := range []int{math.MinInt, -2001, -2000, -700, -1, 0, 3, 1500, 2000, 2001, math.MaxInt} {
				checkColorAt(t, p, x, y, colorByLibrary(p, x, y))
			}
		}
	}
}

// A slope with a place for each of its parts, so that every part of 0 .. 256 is mixed.
func TestColorAtOfEachPart(t *testing.T) {
	p := slopeOfSquares(-128, 5, 128, 5)
	for i, first := range rightColors() {
		p.First, p.Last = first, rightColors()[(i*7+5)%len(rightColors())]
		for part := range 257 {
			checkPartOf(t, p, part-128, 5, part)
			checkColorAt(t, p, part-128, 5, colorByLibrary(p, part-128, 5))
		}
	}
}

func TestColorAtOfWhatIsNotRight(t *testing.T) {
	for _, p := range wrongPaints() {
		for _, at := range placesOf(0, 0, 1, 1, 5, 9, 2000, 2000, -2000, -2000, math.MinInt, math.MaxInt) {
			checkColorAt(t, p, at.X, at.Y, impl.Color{})
		}
	}
}

func TestPromise12PaintsAreLaidColours(t *testing.T) {
	for _, p := range rightPaints() {
		for _, x := range squareEdges {
			for _, y := range []int{math.MinInt, -2000, -5, 0, 1, 900, math.MaxInt} {
				checkIsLaid(t, "ColorAt", impl.ColorAt(p, x, y))
			}
		}
	}
}

func TestPromise12ASlopeGoesFromItsFirstToItsLast(t *testing.T) {
	colors := rightColors()
	squares := pointsWithin(-3, 3)
	for i, from := range squares {
		for j, to := range squares {
			if from == to {
				continue
			}
			p := slopeOfSquares(from.X, from.Y, to.X, to.Y)
			p.First, p.Last = colors[(i+3*j)%len(colors)], colors[(5*i+j+1)%len(colors)]
			first, last := impl.Laid(p.First), impl.Laid(p.Last)
			for far := range 4 {
				wayX, wayY := far*(to.X-from.X), far*(to.Y-from.Y)
				checkPartOf(t, p, from.X-wayX, from.Y-wayY, 0)
				checkColorAt(t, p, from.X-wayX, from.Y-wayY, first)
				checkPartOf(t, p, to.X+wayX, to.Y+wayY, 256)
				checkColorAt(t, p, to.X+wayX, to.Y+wayY, last)
			}
		}
	}
}

// Along a slope no part turns back, and each stays between First's and Last's.
func TestPromise12ASlopeNeverTurnsBack(t *testing.T) {
	p := slopeOfSquares(-40, 0, 40, 30)
	p.First, p.Last = impl.Color{R: 3, G: 250, B: 77, A: 255}, impl.Color{R: 251, G: 0, B: 77, A: 255}
	ahead, part := p.First, 0
	for step := -60; step <= 60; step++ {
		x, y := step, step*3/4
		c := impl.ColorAt(p, x, y)
		if c.R < ahead.R || c.R > p.Last.R || c.G > ahead.G || c.G < p.Last.G || c.B != 77 || c.A != 255 {
			t.Errorf("ColorAt(%v, %d, %d) = %v behind %v", p, x, y, c, ahead)
		}
		if now := impl.PartOf(p, x, y); now < part {
			t.Errorf("PartOf(%v, %d, %d) = %d behind %d", p, x, y, now, part)
		} else {
			part = now
		}
		ahead = c
	}
	if ahead != p.Last || part != 256 {
		t.Errorf("at its end the slope has %v and the part %d, want %v and 256", ahead, part, p.Last)
	}
}

// One paint's colours don't hang on which others were asked for, nor on what is done with an answer.
func TestPaintsKeepNothingAndLeaveWhatIsHandedIn(t *testing.T) {
	paints := append(rightPaints(), wrongPaints()...)
	answers := []impl.Color{}
	for _, p := range paints {
		before := p
		got := impl.ColorAt(p, 1, 2)
		answers = append(answers, got)
		impl.PaintOk(p)
		impl.PartOf(p, 1, 2)
		impl.Laid(p.First)
		impl.ColorOk(p.First)
		if p != before {
			t.Errorf("%v became %v", before, p)
		}
	}
	for i := len(paints) - 1; i >= 0; i-- {
		checkColorAt(t, paints[i], 1, 2, answers[i])
	}
}
