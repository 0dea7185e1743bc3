package tests

import (
	"math"
	"math/big"
	"testing"

	"loop.example/g00190/impl"
)

const turnLimit = 1048576

// A quarter turn, which takes X to Y and Y to -X.
var quarter = impl.Mat{B: 65536, C: -65536}

var farAndPast = []int{
	math.MinInt, math.MinInt + 1, -impl.Far - 1, -impl.Far, -impl.Far + 1, -65536, -1, 0,
	1, 255, 256, 65536, impl.Far - 1, impl.Far, impl.Far + 1, math.MaxInt - 1, math.MaxInt,
}

func withinFar(n int) bool {
	return -impl.Far <= n && n <= impl.Far
}

func withinTurn(n int) bool {
	return -turnLimit <= n && n <= turnLimit
}

func checkPointOk(t *testing.T, p impl.Point, want bool) {
	t.Helper()
	if got := impl.PointOk(p); got != want {
		t.Errorf("PointOk(%v) = %v, want %v", p, got, want)
	}
}

func checkMatOk(t *testing.T, m impl.Mat, want bool) {
	t.Helper()
	if got := impl.MatOk(m); got != want {
		t.Errorf("MatOk(%v) = %v, want %v", m, got, want)
	}
}

func checkApply(t *testing.T, m impl.Mat, p impl.Point, want impl.Point) {
	t.Helper()
	if got := impl.Apply(m, p); got != want {
		t.Errorf("Apply(%v, %v) = %v, want %v", m, p, got, want)
	}
}

func checkCompose(t *testing.T, m impl.Mat, n impl.Mat, want impl.Mat, wantOk bool) {
	t.Helper()
	if got, ok := impl.Compose(m, n); got != want || ok != wantOk {
		t.Errorf("Compose(%v, %v) = %v, %v, want %v, %v", m, n, got, ok, want, wantOk)
	}
}

// The fields of a Mat one by one, so that a table may name a field by its place.
func fieldOf(m *impl.Mat, place int) *int {
	return []*int{&m.A, &m.B, &m.C, &m.D, &m.E, &m.F}[place]
}

// a b and c d by 65536, to the nearest, the greater of two, by numbers without a limit.
func nearestOfTwo(a int, b int, c int, d int) int {
	sum := new(big.Int).Mul(big.NewInt(int64(a)), big.NewInt(int64(b)))
	sum.Add(sum, new(big.Int).Mul(big.NewInt(int64(c)), big.NewInt(int64(d))))
	sum.Add(sum, big.NewInt(32768))
	return floorByLibrary(sum, 65536)
}

func applyByLibrary(m impl.Mat, p impl.Point) impl.Point {
	x := nearestOfTwo(m.A, p.X, m.C, p.Y) + m.E
	y := nearestOfTwo(m.B, p.X, m.D, p.Y) + m.F
	return impl.Point{X: max(-impl.Far, min(x, impl.Far)), Y: max(-impl.Far, min(y, impl.Far))}
}

func composeByLibrary(m impl.Mat, n impl.Mat) (impl.Mat, bool) {
	both := impl.Mat{
		A: nearestOfTwo(m.A, n.A, m.C, n.B),
		B: nearestOfTwo(m.B, n.A, m.D, n.B),
		C: nearestOfTwo(m.A, n.C, m.C, n.D),
		D: nearestOfTwo(m.B, n.C, m.D, n.D),
		E: nearestOfTwo(m.A, n.E, m.C, n.F) + m.E,
		F: nearestOfTwo(m.B, n.E, m.D, n.F) + m.F,
	}
	right := withinTurn(both.A) && withinTurn(both.B) && withinTurn(both.C) && withinTurn(both.D) && withinFar(both.E) && withinFar(both.F)
	if !right {
		return impl.Mat{}, false
	}
	return both, true
}

// Right ones of many kinds: still, turned, shifted, stretched, squeezed, flat, at each limit, and some without a plan to them.
func rightMats() []impl.Mat {
	mats := []impl.Mat{
		impl.Still(), {}, quarter, {A: -65536, D: -65536}, {B: -65536, C: 65536}, {A: 65536, D: -65536},
		impl.Shift(3, -4), impl.Shift(impl.Far, impl.Far), impl.Shift(-impl.Far, -impl.Far), impl.Shift(impl.Far, -impl.Far),
		{A: 32768, D: 32768}, {A: 32768, D: 32768, E: 1, F: -1}, {A: 131072, D: 131072}, {A: 46341, B: 46341, C: -46341, D: 46341},
		{A: 1, B: 1, C: 1, D: 1}, {A: -1, B: -1, C: -1, D: -1}, {A: 65535, B: 1, C: -1, D: 65537, E: 255, F: 257},
		{A: turnLimit, B: turnLimit, C: turnLimit, D: turnLimit, E: impl.Far, F: impl.Far},
		{A: -turnLimit, B: -turnLimit, C: -turnLimit, D: -turnLimit, E: -impl.Far, F: -impl.Far},
		{A: turnLimit, B: -turnLimit, C: -turnLimit, D: turnLimit, E: -impl.Far, F: impl.Far},
		{A: turnLimit, D: turnLimit}, {B: turnLimit, C: -turnLimit},
	}
	seed := uint32(7)
	for range 60 {
		var m impl.Mat
		for place := range 6 {
			seed = seed*1664525 + 1013904223
			*fieldOf(&m, place) = int(seed>>12) - 1<<19
		}
		mats = append(mats, m)
	}
	return mats
}

func rightPoints() []impl.Point {
	coords := []int{-impl.Far, -impl.Far + 1, -65537, -32768, -257, -3, -1, 0, 1, 2, 128, 32767, 32768, 65536, 1000003, impl.Far - 1, impl.Far}
	points := []impl.Point{}
	for _, x := range coords {
		for _, y := range coords {
			points = append(points, impl.Point{X: x, Y: y})
		}
	}
	return points
}

// Each with one field past its limit, the others as in a right one.
func wrongMats() []impl.Mat {
	mats := []impl.Mat{}
	for place := range 6 {
		limit := turnLimit
		if place >= 4 {
			limit = impl.Far
		}
		for _, wrong := range []int{limit + 1, -limit - 1, math.MaxInt, math.MinInt} {
			m := impl.Shift(5, 6)
			*fieldOf(&m, place) = wrong
			mats = append(mats, m)
		}
	}
	return append(mats, impl.Mat{A: math.MinInt, B: math.MaxInt, C: math.MinInt, D: math.MaxInt, E: math.MinInt, F: math.MaxInt})
}

func wrongPoints() []impl.Point {
	points := []impl.Point{}
	for _, wrong := range []int{impl.Far + 1, -impl.Far - 1, math.MaxInt, math.MinInt} {
		points = append(points, impl.Point{X: wrong, Y: 7}, impl.Point{X: 7, Y: wrong}, impl.Point{X: wrong, Y: wrong}, impl.Point{X: wrong, Y: -wrong})
	}
	return points
}

func TestPointOkWrittenOut(t *testing.T) {
	for _, c := range []struct {
		p    impl.Point
		want bool
	}{
		{impl.Point{}, true}, {impl.Point{X: 1, Y: -1}, true}, {impl.Point{X: 8388608, Y: 8388608}, true}, {impl.Point{X: -8388608, Y: -8388608}, true},
		{impl.Point{X: 8388609}, false}, {impl.Point{X: -8388609}, false}, {impl.Point{Y: 8388609}, false}, {impl.Point{Y: -8388609}, false},
		{impl.Point{X: 8388607}, true}, {impl.Point{X: -8388607}, true}, {impl.Point{Y: 8388607}, true}, {impl.Point{Y: -8388607}, true},
		{impl.Point{X: math.MaxInt}, false}, {impl.Point{X: math.MinInt}, false}, {impl.Point{Y: math.MaxInt}, false}, {impl.Point{Y: math.MinInt}, false},
	} {
		checkPointOk(t, c.p, c.want)
	}
}

func TestPointOkOfAllPairs(t *testing.T) {
	for _, x := range farAndPast {
		for _, y := range farAndPast {
			checkPointOk(t, impl.Point{X: x, Y: y}, withinFar(x) && withinFar(y))
		}
	}
}

func TestMatOkFieldByField(t *testing.T) {
	for place, limit := range []int{1048576, 1048576, 1048576, 1048576, 8388608, 8388608} {
		for _, around := range []impl.Mat{{}, impl.Still(), quarter, impl.Shift(impl.Far, -impl.Far)} {
			for _, right := range []int{-limit, -limit + 1, -1, 0, 1, 65536, limit - 1, limit} {
				*fieldOf(&around, place) = right
				checkMatOk(t, around, true)
			}
			for _, wrong := range []int{math.MinInt, math.MinInt + 1, -limit - 1, limit + 1, math.MaxInt - 1, math.MaxInt} {
				*fieldOf(&around, place) = wrong
				checkMatOk(t, around, false)
			}
		}
	}
}

func TestMatOkOfWholes(t *testing.T) {
	for _, m := range rightMats() {
		checkMatOk(t, m, true)
	}
	for _, m := range wrongMats() {
		checkMatOk(t, m, false)
	}
}

func TestStillWrittenOut(t *testing.T) {
	if got := impl.Still(); got != (impl.Mat{A: 65536, B: 0, C: 0, D: 65536, E: 0, F: 0}) {
		t.Errorf("Still() = %v", got)
	}
	checkMatOk(t, impl.Still(), true)
}

func TestApplyWrittenOut(t *testing.T) {
	for _, c := range []struct {
		m    impl.Mat
		p    impl.Point
		want impl.Point
	}{
		{quarter, impl.Point{X: 2, Y: 3}, impl.Point{X: -3, Y: 2}},
		{impl.Mat{A: 65536}, impl.Point{X: 5, Y: 7}, impl.Point{X: 5}},
		{impl.Mat{B: 65536}, impl.Point{X: 5, Y: 7}, impl.Point{Y: 5}},
		{impl.Mat{C: 65536}, impl.Point{X: 5, Y: 7}, impl.Point{X: 7}},
		{impl.Mat{D: 65536}, impl.Point{X: 5, Y: 7}, impl.Point{Y: 7}},
		{impl.Mat{E: 9, F: -8}, impl.Point{X: 5, Y: 7}, impl.Point{X: 9, Y: -8}},
		{impl.Mat{A: 131072, B: 65536, C: 196608, D: -65536, E: 10, F: 20}, impl.Point{X: 1, Y: 2}, impl.Point{X: 18, Y: 19}},
		{impl.Mat{}, impl.Point{X: 5, Y: 7}, impl.Point{}},
		{impl.Shift(100, 200), impl.Point{X: -1, Y: -2}, impl.Point{X: 99, Y: 198}},
	} {
		checkApply(t, c.m, c.p, c.want)
	}
}

// Halves go up, above and below 0, and what is shifted is added behind that.
func TestApplyBetweenTwoUnits(t *testing.T) {
	half := impl.Mat{A: 32768, D: 32768}
	for _, c := range [][2]int{{1, 1}, {2, 1}, {3, 2}, {5, 3}, {-1, 0}, {-2, -1}, {-3, -1}, {-5, -2}, {0, 0}} {
		checkApply(t, half, impl.Point{X: c[0], Y: c[0]}, impl.Point{X: c[1], Y: c[1]})
		checkApply(t, half, impl.Point{X: c[0]}, impl.Point{X: c[1]})
		checkApply(t, half, impl.Point{Y: c[0]}, impl.Point{Y: c[1]})
		shifted := impl.Mat{A: 32768, D: 32768, E: -10, F: 10}
		checkApply(t, shifted, impl.Point{X: c[0], Y: c[0]}, impl.Point{X: c[1] - 10, Y: c[1] + 10})
	}
	for _, c := range [][2]int{{32767, 0}, {32768, 1}, {32769, 1}, {-32767, 0}, {-32768, 0}, {-32769, -1}, {98303, 1}, {98304, 2}, {-98304, -1}, {-98305, -2}} {
		checkApply(t, impl.Mat{A: c[0], D: c[0]}, impl.Point{X: 1, Y: 1}, impl.Point{X: c[1], Y: c[1]})
		checkApply(t, impl.Mat{B: c[0], C: c[0]}, impl.Point{X: 1, Y: 1}, impl.Point{X: c[1], Y: c[1]})
	}
}

// The two products are one sum ahead of the division: two quarters of a unit are a half, two halves a whole.
func TestApplyDividesTheSum(t *testing.T) {
	checkApply(t, impl.Mat{A: 16384, B: 16384, C: 16384, D: 16384}, impl.Point{X: 1, Y: 1}, impl.Point{X: 1, Y: 1})
	checkApply(t, impl.Mat{A: 32768, B: 32768, C: 32768, D: 32768}, impl.Point{X: 1, Y: 1}, impl.Point{X: 1, Y: 1})
	checkApply(t, impl.Mat{A: 32768, B: -32768, C: -32768, D: 32768}, impl.Point{X: 1, Y: 1}, impl.Point{})
	checkApply(t, impl.Mat{A: -16384, B: -16384, C: -16384, D: -16384}, impl.Point{X: 1, Y: 1}, impl.Point{})
	checkApply(t, impl.Mat{A: -16385, B: -16384, C: -16384, D: -16385}, impl.Point{X: 1, Y: 1}, impl.Point{X: -1, Y: -1})
}

func TestApplyPastFar(t *testing.T) {
	const far = impl.Far
	twice := impl.Mat{A: 131072, D: 131072}
	for _, c := range []struct {
		m    impl.Mat
		p    impl.Point
		want impl.Point
	}{
		{impl.Shift(1, 0), impl.Point{X: far - 1, Y: 5}, impl.Point{X: far, Y: 5}},
		{impl.Shift(1, 0), impl.Point{X: far, Y: 5}, impl.Point{X: far, Y: 5}},
		{impl.Shift(-1, 0), impl.Point{X: -far, Y: 5}, impl.Point{X: -far, Y: 5}},
		{impl.Shift(0, 1), impl.Point{X: 5, Y: far}, impl.Point{X: 5, Y: far}},
		{impl.Shift(0, -1), impl.Point{X: 5, Y: -far}, impl.Point{X: 5, Y: -far}},
		{impl.Shift(1, -1), impl.Point{X: far, Y: -far}, impl.Point{X: far, Y: -far}},
		{impl.Shift(far, far), impl.Point{X: far, Y: far}, impl.Point{X: far, Y: far}},
		{impl.Shift(far, -far), impl.Point{X: -far, Y: far}, impl.Point{}},
		{impl.Shift(-far, -far), impl.Point{X: -far, Y: -far}, impl.Point{X: -far, Y: -far}},
		{impl.Mat{E: far, F: -far}, impl.Point{X: 3, Y: 4}, impl.Point{X: far, Y: -far}},
		{twice, impl.Point{X: far / 2, Y: -far / 2}, impl.Point{X: far, Y: -far}},
		{twice, impl.Point{X: far/2 + 1, Y: -far/2 - 1}, impl.Point{X: far, Y: -far}},
		{twice, impl.Point{X: far, Y: 1}, impl.Point{X: far, Y: 2}},
		{impl.Mat{A: 131072, D: 131072, E: -far, F: far}, impl.Point{X: far, Y: -far}, impl.Point{X: far, Y: -far}},
		{impl.Mat{A: turnLimit, B: -turnLimit, C: turnLimit, D: -turnLimit, E: far, F: -far}, impl.Point{X: far, Y: far}, impl.Point{X: far, Y: -far}},
	} {
		checkApply(t, c.m, c.p, c.want)
	}
}

func TestApplyOfWhatIsNotRight(t *testing.T) {
	for _, m := range wrongMats() {
		for _, p := range []impl.Point{{}, {X: 3, Y: 4}, {X: impl.Far, Y: -impl.Far}} {
			checkApply(t, m, p, impl.Point{})
		}
		for _, p := range wrongPoints() {
			checkApply(t, m, p, impl.Point{})
		}
	}
	for _, p := range wrongPoints() {
		checkApply(t, impl.Still(), p, impl.Point{})
		checkApply(t, impl.Shift(5, 6), p, impl.Point{})
		checkApply(t, impl.Mat{E: 5, F: 6}, p, impl.Point{})
	}
}

func TestApplyByNumbersWithoutALimit(t *testing.T) {
	for _, m := range rightMats() {
		for _, p := range rightPoints() {
			checkApply(t, m, p, applyByLibrary(m, p))
		}
	}
}

func TestComposeWrittenOut(t *testing.T) {
	for _, c := range [][3]impl.Mat{
		{impl.Shift(3, 4), impl.Shift(5, 6), impl.Shift(8, 10)},
		{quarter, impl.Shift(5, 6), {B: 65536, C: -65536, E: -6, F: 5}},
		{impl.Shift(5, 6), quarter, {B: 65536, C: -65536, E: 5, F: 6}},
		{quarter, quarter, {A: -65536, D: -65536}},
		{{A: 131072, D: 196608}, quarter, {B: 196608, C: -131072}},
		{quarter, {A: 131072, D: 196608}, {B: 131072, C: -196608}},
		{
			{A: 65536, B: 131072, C: 196608, D: 262144, E: 1, F: 2},
			{A: 327680, B: -65536, C: 65536, D: 131072, E: 10, F: 20},
			{A: 131072, B: 393216, C: 458752, D: 655360, E: 71, F: 102},
		},
		{{A: 32768, D: 32768}, {A: 1, B: 3, C: -1, D: -3, E: 1, F: -1}, {A: 1, B: 2, C: 0, D: -1, E: 1, F: 0}},
		{{}, impl.Shift(5, 6), {}},
		{impl.Shift(5, 6), {}, {E: 5, F: 6}},
	} {
		checkCompose(t, c[0], c[1], c[2], true)
	}
}

// What n does comes first: both ways round, against the points moved twice.
func TestComposeDoesTheSecondFirst(t *testing.T) {
	for _, m := range []impl.Mat{quarter, impl.Shift(5, 6), {A: 131072, D: 196608}, {A: -65536, D: 65536, E: 7}} {
		for _, n := range []impl.Mat{quarter, impl.Shift(-50, 60), {A: 65536, C: 65536, D: 65536}, {A: 196608, D: -131072, F: 9}} {
			both, ok := impl.Compose(m, n)
			if !ok {
				t.Fatalf("Compose(%v, %v) is refused", m, n)
			}
			for _, p := range []impl.Point{{}, {X: 1}, {Y: 1}, {X: -30, Y: 70}, {X: 1000, Y: 2000}} {
				checkApply(t, both, p, impl.Apply(m, impl.Apply(n, p)))
			}
		}
	}
}

// A turned one whose one field comes to the limit itself is right; one part more is not.
func TestComposeAroundTheLimitsOfTurns(t *testing.T) {
	most := 16 * 65536
	for _, sign := range []int{1, -1} {
		four := impl.Mat{A: sign * 262144, D: sign * 262144}
		cross := impl.Mat{B: sign * 262144, C: sign * 262144}
		at, past := 262144, 262145
		checkCompose(t, four, impl.Mat{A: at}, impl.Mat{A: sign * most}, true)
		checkCompose(t, four, impl.Mat{A: past}, impl.Mat{}, false)
		checkCompose(t, four, impl.Mat{B: at}, impl.Mat{B: sign * most}, true)
		checkCompose(t, four, impl.Mat{B: past}, impl.Mat{}, false)
		checkCompose(t, four, impl.Mat{C: at}, impl.Mat{C: sign * most}, true)
		checkCompose(t, four, impl.Mat{C: past}, impl.Mat{}, false)
		checkCompose(t, four, impl.Mat{D: at}, impl.Mat{D: sign * most}, true)
		checkCompose(t, four, impl.Mat{D: past}, impl.Mat{}, false)
		checkCompose(t, cross, impl.Mat{A: at, D: at}, impl.Mat{B: sign * most, C: sign * most}, true)
		checkCompose(t, cross, impl.Mat{A: past}, impl.Mat{}, false)
		checkCompose(t, cross, impl.Mat{D: past}, impl.Mat{}, false)
	}
}

// By a half or a little more than the limit: what is rounded is held against it.
func TestComposeRoundsAheadOfTheLimits(t *testing.T) {
	half := impl.Mat{A: 32768, D: 32768}
	sum := impl.Mat{A: 65536, C: 1, D: 65536}
	checkCompose(t, sum, impl.Mat{A: turnLimit, B: 32767}, impl.Mat{A: turnLimit, B: 32767}, true)
	checkCompose(t, sum, impl.Mat{A: turnLimit, B: 32768}, impl.Mat{}, false)
	checkCompose(t, sum, impl.Mat{A: -turnLimit, B: -32768}, impl.Mat{A: -turnLimit, B: -32768}, true)
	checkCompose(t, sum, impl.Mat{A: -turnLimit, B: -32769}, impl.Mat{}, false)
	checkCompose(t, half, impl.Mat{A: turnLimit, D: -turnLimit}, impl.Mat{A: turnLimit / 2, D: -turnLimit / 2}, true)
}

func TestComposeAroundTheLimitsOfShifts(t *testing.T) {
	const far = impl.Far
	checkCompose(t, impl.Shift(far-5, 0), impl.Shift(5, 0), impl.Shift(far, 0), true)
	checkCompose(t, impl.Shift(far-5, 0), impl.Shift(6, 0), impl.Mat{}, false)
	checkCompose(t, impl.Shift(5-far, 0), impl.Shift(-5, 0), impl.Shift(-far, 0), true)
	checkCompose(t, impl.Shift(5-far, 0), impl.Shift(-6, 0), impl.Mat{}, false)
	checkCompose(t, impl.Shift(0, far-5), impl.Shift(0, 5), impl.Shift(0, far), true)
	checkCompose(t, impl.Shift(0, far-5), impl.Shift(0, 6), impl.Mat{}, false)
	checkCompose(t, impl.Shift(0, 5-far), impl.Shift(0, -5), impl.Shift(0, -far), true)
	checkCompose(t, impl.Shift(0, 5-far), impl.Shift(0, -6), impl.Mat{}, false)
	checkCompose(t, impl.Shift(far, far), impl.Shift(far, far), impl.Mat{}, false)
	checkCompose(t, impl.Shift(far, -far), impl.Shift(-far, far), impl.Still(), true)
	checkCompose(t, impl.Mat{A: 131072, D: 131072, E: -far, F: far}, impl.Shift(far, -far), impl.Mat{A: 131072, D: 131072, E: far, F: -far}, true)
	checkCompose(t, impl.Mat{A: 131072, D: 131072, E: 1 - far, F: far}, impl.Shift(far, -far), impl.Mat{}, false)
}

func TestComposeOfWhatIsNotRight(t *testing.T) {
	for _, wrong := range wrongMats() {
		for _, right := range []impl.Mat{{}, impl.Still(), quarter, impl.Shift(-5, -6)} {
			checkCompose(t, wrong, right, impl.Mat{}, false)
			checkCompose(t, right, wrong, impl.Mat{}, false)
		}
		for _, other := range wrongMats() {
			checkCompose(t, wrong, other, impl.Mat{}, false)
		}
	}
}

func TestComposeByNumbersWithoutALimit(t *testing.T) {
	for _, m := range rightMats() {
		for _, n := range rightMats() {
			want, ok := composeByLibrary(m, n)
			checkCompose(t, m, n, want, ok)
		}
	}
}

// The document takes x and y as they are: past the limits it is a Mat that is not right.
func TestShiftAtAndPastTheLimits(t *testing.T) {
	for _, x := range farAndPast {
		for _, y := range farAndPast {
			got := impl.Shift(x, y)
			if got != (impl.Mat{A: 65536, D: 65536, E: x, F: y}) {
				t.Errorf("Shift(%d, %d) = %v", x, y, got)
			}
			checkMatOk(t, got, withinFar(x) && withinFar(y))
		}
	}
}

// Promise 4, of what stays still: points and Mats are as they were.
func TestPromise4Still(t *testing.T) {
	for _, p := range rightPoints() {
		checkApply(t, impl.Still(), p, p)
		checkApply(t, impl.Shift(0, 0), p, p)
	}
	for _, m := range rightMats() {
		checkCompose(t, impl.Still(), m, m, true)
		checkCompose(t, m, impl.Still(), m, true)
	}
}

// Promise 4, of what is shifted: where it doesn't come too far, it is shifted back; and both together stay still.
func TestPromise4ShiftedBack(t *testing.T) {
	for _, by := range rightPoints() {
		there, back := impl.Shift(by.X, by.Y), impl.Shift(-by.X, -by.Y)
		checkCompose(t, back, there, impl.Still(), true)
		checkCompose(t, there, back, impl.Still(), true)
		for _, p := range rightPoints() {
			moved := impl.Point{X: p.X + by.X, Y: p.Y + by.Y}
			if withinFar(moved.X) && withinFar(moved.Y) {
				checkApply(t, there, p, moved)
				checkApply(t, back, moved, p)
			}
		}
	}
}
