package tests

import (
	"math"
	"slices"
	"testing"

	"loop.example/g00190/impl"
)

// So many times as great, in parts of 65536, and nothing shifted.
func grown(parts int) impl.Mat {
	return impl.Mat{A: parts, D: parts}
}

func withMat(x impl.Node, m impl.Mat) impl.Node {
	x.Mat = m
	return x
}

// One with nothing but a path: no Width, no Dashes, no Clip.
func filledNode(id int, parent int, p impl.Path) impl.Node {
	return impl.Node{Id: id, Parent: parent, Mat: impl.Still(), Path: p, Paint: plainOf(1, 2, 3, 4), Mode: impl.Over, Fade: 255}
}

func strokedNode(id int, parent int, p impl.Path, width int, dashes ...int) impl.Node {
	x := filledNode(id, parent, p)
	x.Width, x.Dashes = width, dashes
	return x
}

// Groups with these Mats, from the outermost on, each below the one ahead of it; the Ids are 1, 2 and so on.
func chainWith(mats ...impl.Mat) impl.Scene {
	s := chainOf(len(mats))
	for i, m := range mats {
		s.Nodes[i].Mat = m
	}
	return s
}

// Of a right scene, the Mats from the node's own up to the outermost; none when it is not there.
func matsUpward(s impl.Scene, id int) []impl.Mat {
	mats := []impl.Mat{}
	for place := placeByHand(s, id); place >= 0; place = placeByHand(s, s.Nodes[place].Parent) {
		mats = append(mats, s.Nodes[place].Mat)
	}
	return mats
}

// Of a right scene.
func matByLibrary(s impl.Scene, id int) (impl.Mat, bool) {
	mats := matsUpward(s, id)
	if len(mats) == 0 {
		return impl.Mat{}, false
	}
	inside := mats[0]
	for _, m := range mats[1:] {
		both, ok := composeByLibrary(m, inside)
		if !ok {
			return impl.Mat{}, false
		}
		inside = both
	}
	return inside, true
}

func movedLines(m impl.Mat, p impl.Path) [][]impl.Point {
	moved := impl.Path{Verbs: p.Verbs}
	for _, place := range p.Points {
		moved.Points = append(moved.Points, applyByLibrary(m, place))
	}
	return linesByCuts(moved)
}

// Of a right scene.
func shapeByLibrary(s impl.Scene, id int) [][]impl.Point {
	m, ok := matByLibrary(s, id)
	if !ok {
		return nil
	}
	x := s.Nodes[placeByHand(s, id)]
	lines := movedLines(m, x.Path)
	if x.Width == 0 {
		return lines
	}
	stretches := [][]impl.Point{}
	for _, line := range lines {
		if len(x.Dashes) == 0 {
			stretches = append(stretches, line)
		} else {
			stretches = append(stretches, dashesByWay(line, x.Dashes, 0)...)
		}
	}
	return strokeByLibrary(stretches, x.Width)
}

// Of a right scene.
func clipByLibrary(s impl.Scene, id int) [][]impl.Point {
	m, ok := matByLibrary(s, id)
	if !ok {
		return nil
	}
	return movedLines(m, s.Nodes[placeByHand(s, id)].Clip)
}

// The least box of squares that has the square of each of these points.
func squaresAround(points []impl.Point) impl.Box {
	b := impl.Box{}
	for i, p := range points {
		x, y := p.X>>8, p.Y>>8
		if i == 0 {
			b = impl.Box{X0: x, Y0: y, X1: x + 1, Y1: y + 1}
		}
		b = impl.Box{X0: min(b.X0, x), Y0: min(b.Y0, y), X1: max(b.X1, x+1), Y1: max(b.Y1, y+1)}
	}
	return b
}

// Of a right scene.
func idsBelow(s impl.Scene, id int) []int {
	place := placeByHand(s, id)
	if place < 0 {
		return nil
	}
	return underByClosure(s, aboveByClosure(s), place)
}

// Of a right scene.
func boundsByLibrary(s impl.Scene, id int) impl.Box {
	points := []impl.Point{}
	for _, below := range idsBelow(s, id) {
		points = append(points, slices.Concat(shapeByLibrary(s, below)...)...)
	}
	return squaresAround(points)
}

func checkMatOf(t *testing.T, s impl.Scene, id int, want impl.Mat, wantOk bool) {
	t.Helper()
	roomy := roomyScene(s)
	if got, ok := impl.MatOf(roomy, id); got != want || ok != wantOk {
		t.Errorf("MatOf(%v, %d) = %v, %v, want %v, %v", s, id, got, ok, want, wantOk)
	}
	checkLeft(t, "MatOf", roomy, s)
}

func checkNoMatOf(t *testing.T, s impl.Scene, id int) {
	t.Helper()
	checkMatOf(t, s, id, impl.Mat{}, false)
}

// What is written into the lines that came must not come to one another, to what was handed in, nor to the answer of another call.
func checkLines(t *testing.T, name string, ask func(s impl.Scene, id int) [][]impl.Point, s impl.Scene, id int, want [][]impl.Point) {
	t.Helper()
	roomy := roomyScene(s)
	first, second := ask(roomy, id), ask(roomy, id)
	if !sameLines(first, want) {
		t.Errorf("%s(%v, %d) = %v, want %v", name, s, id, first, want)
		return
	}
	checkNoSharedRoom(t, first, want)
	overwrite(first, dots(3))
	if !sameLines(second, want) {
		t.Errorf("%s(%v, %d) a second time = %v, want %v", name, s, id, second, want)
	}
	checkLeft(t, name, roomy, s)
}

func checkShapeOf(t *testing.T, s impl.Scene, id int, want [][]impl.Point) {
	t.Helper()
	checkLines(t, "ShapeOf", impl.ShapeOf, s, id, want)
}

func checkClipOf(t *testing.T, s impl.Scene, id int, want [][]impl.Point) {
	t.Helper()
	checkLines(t, "ClipOf", impl.ClipOf, s, id, want)
}

func checkBoundsOf(t *testing.T, s impl.Scene, id int, want impl.Box) {
	t.Helper()
	roomy := roomyScene(s)
	if got := impl.BoundsOf(roomy, id); got != want {
		t.Errorf("BoundsOf(%v, %d) = %v, want %v", s, id, got, want)
	}
	checkLeft(t, "BoundsOf", roomy, s)
}

// Of a node whose MatOf is false.
func checkNowhere(t *testing.T, s impl.Scene, id int) {
	t.Helper()
	checkNoMatOf(t, s, id)
	checkShapeOf(t, s, id, nil)
	checkClipOf(t, s, id, nil)
}

// The scene's nodes are many kinds of shapes, and their Mats turn, shift and grow, some of them too much.
func variedScene(s impl.Scene, seed int) impl.Scene {
	mats := []impl.Mat{
		impl.Still(), impl.Shift(300, -200), impl.Shift(-1, 77), quarter, grown(32768), grown(131072), grown(196608), grown(262144),
		{A: 46341, B: 46341, C: -46341, D: 46341, E: -99, F: 640}, {A: -65536, D: 65537, E: 1}, {A: 40000, B: 3, C: -12345, D: 70001, E: 5, F: -6},
		impl.Shift(impl.Far, -impl.Far), impl.Shift(-impl.Far, impl.Far), {},
	}
	paths := append(rightPaths()[:11], impl.RectPath(impl.Box{X0: -300, Y0: 20, X1: 700, Y1: 900}), impl.Path{Verbs: movedThen(impl.QuadTo, 3), Points: dots(7)})
	dashes := [][]int{nil, {30, 20}, {100, 1, 7, 300}, {20000, 1}}
	varied := impl.Scene{}
	for i, x := range s.Nodes {
		n := seed*8 + i
		x.Mat = mats[mixed(n, 1, len(mats))]
		x.Clip = paths[mixed(n, 2, len(paths))]
		if !x.Group {
			x.Path = paths[mixed(n, 3, len(paths))]
			x.Width = []int{0, 0, 1, 64, 333, 2048}[mixed(n, 4, 6)]
			x.Dashes = dashes[mixed(n, 5, len(dashes))]
		}
		varied.Nodes = append(varied.Nodes, x)
	}
	return varied
}

func variedScenes() []impl.Scene {
	scenes := []impl.Scene{}
	for i, s := range rightScenes() {
		scenes = append(scenes, variedScene(s, i))
	}
	return scenes
}

func TestVariedScenesAreRight(t *testing.T) {
	seen := map[bool]int{}
	for _, s := range variedScenes() {
		if !impl.SceneOk(s) {
			t.Errorf("%v is not right", s)
		}
		for _, x := range s.Nodes {
			_, ok := matByLibrary(s, x.Id)
			seen[ok]++
		}
	}
	if seen[true] < 1000 || seen[false] < 200 {
		t.Errorf("%d nodes of these have a Mat, and %d have none", seen[true], seen[false])
	}
}

func TestShapesOfWrongScenes(t *testing.T) {
	for _, s := range wrongScenes() {
		for _, id := range append([]int{1, 2, 3, 9, 99}, strangeIds...) {
			checkNowhere(t, s, id)
			checkBoundsOf(t, s, id, impl.Box{})
		}
	}
	// One wrong node spoils all of them.
	s := sevenNodes()
	for place := range s.Nodes {
		bad := s.Nodes[place]
		bad.Fade = 256
		for _, x := range s.Nodes {
			checkNowhere(t, withNode(s, place, bad), x.Id)
			checkBoundsOf(t, withNode(s, place, bad), x.Id, impl.Box{})
		}
	}
}

func TestShapesOfNodesThatAreNotThere(t *testing.T) {
	for _, s := range []impl.Scene{{}, {Nodes: []impl.Node{}}, groupsOf(1, 0), sevenNodes(), eightNodes(), sceneOf(shapeNode(99, 0))} {
		for _, id := range append([]int{9, 98}, strangeIds...) {
			checkNowhere(t, s, id)
			checkBoundsOf(t, s, id, impl.Box{})
		}
	}
}

// A node in the room behind the list is none of the scene.
func TestShapesPassOverTheRoomBehind(t *testing.T) {
	s := impl.Scene{Nodes: sceneOf(groupNode(1, 0), shapeNode(2, 1), shapeNode(3, 1)).Nodes[:2]}
	checkNowhere(t, s, 3)
	checkBoundsOf(t, s, 3, impl.Box{})
	if got, want := impl.BoundsOf(s, 1), impl.BoundsOf(sceneOf(groupNode(1, 0), shapeNode(2, 1)), 1); got != want || impl.Empty(got) {
		t.Errorf("BoundsOf = %v, want %v", got, want)
	}
}

func TestMatOfOneNode(t *testing.T) {
	for _, m := range rightMats() {
		for _, x := range []impl.Node{groupNode(1, 0), shapeNode(99, 0)} {
			checkMatOf(t, sceneOf(withMat(x, m)), x.Id, m, true)
			checkMatOf(t, sceneOf(groupNode(5, 0), withMat(x, m), shapeNode(6, 5)), x.Id, m, true)
		}
	}
	for _, m := range wrongMats() {
		checkNoMatOf(t, sceneOf(withMat(shapeNode(1, 0), m)), 1)
	}
}

func TestMatOfWrittenOut(t *testing.T) {
	s := chainWith(impl.Shift(5, 6), quarter, grown(131072), impl.Shift(10, 1))
	for _, order := range []impl.Scene{s, turnedAround(s), sceneOf(s.Nodes[2], s.Nodes[0], s.Nodes[3], s.Nodes[1])} {
		checkMatOf(t, order, 1, impl.Shift(5, 6), true)
		checkMatOf(t, order, 2, impl.Mat{B: 65536, C: -65536, E: 5, F: 6}, true)
		checkMatOf(t, order, 3, impl.Mat{B: 131072, C: -131072, E: 5, F: 6}, true)
		checkMatOf(t, order, 4, impl.Mat{B: 131072, C: -131072, E: 3, F: 26}, true)
	}
	// The others of the scene have no say, be they below, beside or too great.
	beside := plusNode(plusNode(s, withMat(groupNode(8, 1), grown(turnLimit))), withMat(shapeNode(9, 8), grown(turnLimit)))
	checkMatOf(t, beside, 4, impl.Mat{B: 131072, C: -131072, E: 3, F: 26}, true)
	checkMatOf(t, beside, 8, impl.Mat{A: turnLimit, D: turnLimit, E: 5, F: 6}, true)
	checkNoMatOf(t, beside, 9)
}

// What is inside is composed first: a half of two shifts of one is one; a half of each by itself, one and one, would be two.
func TestMatOfRoundsWhatIsInsideFirst(t *testing.T) {
	half, one := grown(32768), impl.Shift(1, 1)
	checkMatOf(t, chainWith(half, one), 2, impl.Mat{A: 32768, D: 32768, E: 1, F: 1}, true)
	checkMatOf(t, chainWith(half, one, one), 3, impl.Mat{A: 32768, D: 32768, E: 1, F: 1}, true)
	checkMatOf(t, chainWith(half, one, one, one), 4, impl.Mat{A: 32768, D: 32768, E: 2, F: 2}, true)
	checkMatOf(t, chainWith(half, half, one), 3, impl.Mat{A: 16384, D: 16384, E: 1, F: 1}, true)
	checkMatOf(t, chainWith(half, half, half, grown(3)), 4, grown(1), true)
	checkMatOf(t, chainWith(grown(1), grown(1), grown(turnLimit)), 3, grown(0), true)
	checkMatOf(t, chainWith(grown(1), grown(turnLimit), grown(turnLimit/256)), 3, grown(1), true)
}

// Mats that are each right; which of them are too great together depends on what is inside.
func TestMatOfTooGreat(t *testing.T) {
	two, three, five, half := grown(131072), grown(196608), grown(327680), grown(32768)
	// The innermost two, or more from there on, in each depth.
	for _, mats := range [][]impl.Mat{
		{five, five}, {half, five, five}, {half, half, five, five}, {half, three, three, three}, {three, three, three},
		{grown(0), five, five}, {impl.Still(), grown(0), five, five}, {quarter, five, five}, {five, five, impl.Still()}, {five, five, impl.Still(), impl.Still()},
		{five, half, five, five}, {three, three, two}, {impl.Still(), impl.Still(), grown(turnLimit), grown(65537)},
	} {
		checkNoMatOf(t, chainWith(mats...), len(mats))
	}
	// The outermost two, or all but the last; what is inside makes them less.
	checkNoMatOf(t, chainWith(five, five, half), 2)
	checkMatOf(t, chainWith(five, five, half), 3, grown(819200), true)
	checkMatOf(t, chainWith(five, five, grown(0)), 3, grown(0), true)
	checkNoMatOf(t, chainWith(three, three, three, half), 3)
	checkMatOf(t, chainWith(three, three, three, half), 4, grown(884736), true)
	checkMatOf(t, chainWith(five, half, five, half), 4, grown(409600), true)
	checkMatOf(t, chainWith(two, five, five, grown(0)), 4, grown(0), true)
	// All but the first, which would make them less.
	checkNoMatOf(t, chainWith(half, three, three, three), 4)
	checkMatOf(t, chainWith(half, three, three, three), 3, grown(294912), true)
}

func TestMatOfAroundTheLimits(t *testing.T) {
	four := grown(262144)
	checkMatOf(t, chainWith(four, four), 2, grown(turnLimit), true)
	checkNoMatOf(t, chainWith(four, grown(262145)), 2)
	checkMatOf(t, chainWith(four, grown(-262144)), 2, grown(-turnLimit), true)
	checkNoMatOf(t, chainWith(four, grown(-262145)), 2)
	far, one := impl.Shift(impl.Far, -impl.Far), impl.Shift(1, -1)
	checkMatOf(t, chainWith(far, impl.Still()), 2, far, true)
	checkMatOf(t, chainWith(impl.Still(), impl.Still(), impl.Still(), far), 4, far, true)
	checkNoMatOf(t, chainWith(far, one), 2)
	checkNoMatOf(t, chainWith(one, far), 2)
	checkNoMatOf(t, chainWith(impl.Shift(0, 1), impl.Shift(0, impl.Far)), 2)
	checkNoMatOf(t, chainWith(grown(32768), one, far), 3)
	checkMatOf(t, chainWith(one, impl.Shift(impl.Far-1, 1-impl.Far)), 2, far, true)
	// Too far out, and back again by what is inside, or only by what is outside.
	checkMatOf(t, chainWith(far, one, impl.Shift(-1, 1)), 3, far, true)
	checkNoMatOf(t, chainWith(impl.Shift(-1, 1), one, far), 3)
}

func TestMatOfManyScenes(t *testing.T) {
	for _, s := range variedScenes() {
		for _, x := range s.Nodes {
			want, wantOk := matByLibrary(s, x.Id)
			checkMatOf(t, s, x.Id, want, wantOk)
		}
	}
}

func TestMatOfManyChains(t *testing.T) {
	mats := rightMats()
	for n := range 3000 {
		chain := impl.Scene{}
		for i := range 1 + n%4 {
			chain.Nodes = append(chain.Nodes, withMat(groupNode(i+1, i), mats[mixed(n, i, len(mats))]))
		}
		want, wantOk := matByLibrary(chain, 1+n%4)
		if got, ok := impl.MatOf(chain, 1+n%4); got != want || ok != wantOk {
			t.Errorf("MatOf(%v, %d) = %v, %v, want %v, %v", chain, 1+n%4, got, ok, want, wantOk)
		}
	}
}

// Where MatOf is false nothing is there, whatever the node has; what is below it may be there for all that.
func TestShapesWhereMatOfIsFalse(t *testing.T) {
	five := grown(327680)
	for _, x := range []impl.Node{shapeNode(3, 2), otherShape(3, 2), filledNode(3, 2, impl.RectPath(impl.Box{X1: 512, Y1: 256}))} {
		s := sceneOf(withMat(groupNode(1, 0), five), withMat(groupNode(2, 1), five), withMat(x, impl.Still()))
		checkNowhere(t, s, 3)
		for id := range 4 {
			checkBoundsOf(t, s, id, impl.Box{})
		}
		s.Nodes[1].Clip = impl.RectPath(impl.Box{X1: 512, Y1: 256})
		checkNowhere(t, s, 2)
		checkClipOf(t, s, 1, nil)
	}
	there := filledNode(3, 2, impl.RectPath(impl.Box{X1: 1000, Y1: 10}))
	s := sceneOf(withMat(groupNode(1, 0), five), withMat(groupNode(2, 1), five), withMat(there, grown(32768)))
	s.Nodes[1].Clip = there.Path
	checkNowhere(t, s, 2)
	checkShapeOf(t, s, 3, [][]impl.Point{placesOf(0, 0, 12500, 0, 12500, 125, 0, 125, 0, 0)})
	for id := 1; id <= 3; id++ {
		checkBoundsOf(t, s, id, impl.Box{X1: 49, Y1: 1})
	}
}

func TestShapeOfGroups(t *testing.T) {
	clipped := groupNode(1, 0)
	clipped.Clip = impl.RectPath(impl.Box{X1: 512, Y1: 256})
	for _, s := range []impl.Scene{groupsOf(1, 0), sceneOf(clipped), sceneOf(clipped, shapeNode(2, 1)), sceneOf(withMat(groupNode(1, 0), quarter))} {
		checkShapeOf(t, s, 1, nil)
	}
	for _, id := range []int{1, 3, 4, 7} {
		checkShapeOf(t, sevenNodes(), id, nil)
	}
}

func TestShapeOfNoPath(t *testing.T) {
	for _, width := range []int{0, 1, 64, 2048} {
		for _, dashes := range [][]int{nil, {30, 20}} {
			for _, clip := range []impl.Path{{}, impl.RectPath(impl.Box{X1: 512, Y1: 256})} {
				x := strokedNode(1, 0, impl.Path{}, width, dashes...)
				x.Clip = clip
				checkShapeOf(t, sceneOf(x), 1, nil)
				checkBoundsOf(t, sceneOf(x), 1, impl.Box{})
			}
		}
	}
}

func TestShapeOfWidthZero(t *testing.T) {
	for _, c := range []struct {
		text string
		m    impl.Mat
		want [][]impl.Point
	}{
		{"M 0 0 L 256 0 L 256 256 Z", impl.Shift(256, 0), [][]impl.Point{placesOf(256, 0, 512, 0, 512, 256, 256, 0)}},
		{"M 10 20 L 30 -40", impl.Still(), [][]impl.Point{placesOf(10, 20, 30, -40)}},
		{"M 10 20 L 30 -40", quarter, [][]impl.Point{placesOf(-20, 10, 40, 30)}},
		{"M 10 20 L 30 -40", impl.Mat{E: 7, F: 8}, [][]impl.Point{placesOf(7, 8, 7, 8)}},
		{"M 1 2 M 3 4 L 5 6 Z M 7 8 Z", grown(131072), [][]impl.Point{placesOf(2, 4), placesOf(6, 8, 10, 12, 6, 8), placesOf(14, 16)}},
		{"M 0 0 Q 8 16 16 0", impl.Mat{A: 32768, D: 32768}, [][]impl.Point{placesOf(0, 0, 2, 3, 4, 4, 6, 3, 8, 0)}},
		{"M 0 0 C 0 8 8 8 8 0 Z", impl.Shift(100, 0), [][]impl.Point{placesOf(100, 0, 100, 3, 101, 5, 103, 6, 104, 6, 105, 6, 107, 5, 108, 3, 108, 0, 100, 0)}},
	} {
		x := withMat(filledNode(1, 0, pathOf(t, c.text)), c.m)
		checkShapeOf(t, sceneOf(x), 1, c.want)
		// Dashes count of a stroke alone; Even and a Clip are not asked for.
		x.Dashes, x.Even, x.Clip = []int{1, 1}, true, impl.RectPath(impl.Box{X1: 1, Y1: 1})
		checkShapeOf(t, sceneOf(x), 1, c.want)
	}
}

// The path is rounded once, by the Mats together, and its curve once more.
func TestShapeOfMovesAheadOfItsCurves(t *testing.T) {
	x := filledNode(3, 2, pathOf(t, "M 1 1 Q 3 5 7 1 L 9 9"))
	s := sceneOf(withMat(groupNode(1, 0), grown(32768)), withMat(groupNode(2, 1), grown(32768)), x)
	// By a half and a half again the points would come to 1, 1 and 1, 2 and 2, 1 and 3, 3; moved behind its curve, the second one to 1, 1.
	checkShapeOf(t, s, 3, [][]impl.Point{placesOf(0, 0, 1, 0, 1, 1, 2, 0, 2, 0, 2, 2)})
}

func TestShapeOfStrokes(t *testing.T) {
	const line = "M 0 0 L 100 0 L 100 100"
	first, second := placesOf(0, 5, 100, 5, 100, -5, 0, -5), placesOf(95, 0, 95, 100, 105, 100, 105, 0)
	corner := placesOf(95, -5, 105, -5, 105, 5, 95, 5)
	checkShapeOf(t, sceneOf(strokedNode(1, 0, pathOf(t, line), 10)), 1, [][]impl.Point{first, corner, second})
	// Two lines: the second one begins anew, without a corner between.
	checkShapeOf(t, sceneOf(strokedNode(1, 0, pathOf(t, "M 0 0 L 100 0 M 100 0 L 100 100"), 10)), 1, [][]impl.Point{first, second})
	// The width is that of the picture, however much the path is grown.
	half := withMat(strokedNode(1, 0, pathOf(t, "M 0 0 L 200 0"), 10), grown(32768))
	checkShapeOf(t, sceneOf(half), 1, [][]impl.Point{first})
	// A line of one point has no stroke; nor have two that come to one.
	checkShapeOf(t, sceneOf(strokedNode(1, 0, pathOf(t, "M 5 5 Z M 7 7"), 10)), 1, nil)
	checkShapeOf(t, sceneOf(withMat(strokedNode(1, 0, pathOf(t, "M 0 0 L 2 0"), 10), impl.Mat{})), 1, nil)
	// A closed line has no corner where it closes.
	closed := strokedNode(1, 0, pathOf(t, "M 0 0 L 100 0 Z"), 10)
	closed.Even = true
	checkShapeOf(t, sceneOf(closed), 1, [][]impl.Point{first, corner, placesOf(100, -5, 0, -5, 0, 5, 100, 5)})
	for _, width := range []int{1, 2047, 2048} {
		s := sceneOf(strokedNode(1, 0, pathOf(t, line), width))
		checkShapeOf(t, s, 1, shapeByLibrary(s, 1))
	}
}

func TestShapeOfDashes(t *testing.T) {
	level := func(from int, to int) []impl.Point {
		return placesOf(from, 5, to, 5, to, -5, from, -5)
	}
	path := pathOf(t, "M 0 0 L 100 0")
	checkShapeOf(t, sceneOf(strokedNode(1, 0, path, 10, 30, 20)), 1, [][]impl.Point{level(0, 30), level(50, 80)})
	checkShapeOf(t, sceneOf(strokedNode(1, 0, path, 10, 10, 20, 30, 15)), 1, [][]impl.Point{level(0, 10), level(30, 60), level(75, 85)})
	checkShapeOf(t, sceneOf(strokedNode(1, 0, path, 10, 100, 1)), 1, [][]impl.Point{level(0, 100)})
	checkShapeOf(t, sceneOf(strokedNode(1, 0, path, 10, 20000, 20000)), 1, [][]impl.Point{level(0, 100)})
	// The dashes are those of the picture, too: a line twice as long has more of them.
	checkShapeOf(t, sceneOf(withMat(strokedNode(1, 0, pathOf(t, "M 0 0 L 50 0"), 10, 30, 20), grown(131072))), 1, [][]impl.Point{level(0, 30), level(50, 80)})
	// Each line begins with the first dash.
	two := strokedNode(1, 0, pathOf(t, "M 0 0 L 40 0 M 200 0 L 240 0"), 10, 30, 20)
	checkShapeOf(t, sceneOf(two), 1, [][]impl.Point{level(0, 30), level(200, 230)})
	// A stretch goes around a corner; what closes is dashed like all else.
	corner := strokedNode(1, 0, pathOf(t, "M 0 0 L 20 0 L 20 40 Z"), 10, 30, 1000)
	checkShapeOf(t, sceneOf(corner), 1, [][]impl.Point{level(0, 20), placesOf(15, -5, 25, -5, 25, 5, 15, 5), placesOf(15, 0, 15, 10, 25, 10, 25, 0)})
	closing := strokedNode(1, 0, pathOf(t, "M 0 0 L 0 100 Z"), 10, 50, 70)
	checkShapeOf(t, sceneOf(closing), 1, [][]impl.Point{placesOf(-5, 0, -5, 50, 5, 50, 5, 0), placesOf(5, 80, 5, 30, -5, 30, -5, 80)})
	checkShapeOf(t, sceneOf(strokedNode(1, 0, pathOf(t, "M 5 5 Z M 7 7"), 10, 30, 20)), 1, nil)
}

// What is moved past Far comes to it, ahead of its strokes.
func TestShapeOfWhatIsMovedOutOfTheLimits(t *testing.T) {
	const far = impl.Far
	out := impl.Shift(far, -far)
	rect := impl.RectPath(impl.Box{X1: 512, Y1: 256})
	checkShapeOf(t, sceneOf(withMat(filledNode(1, 0, rect), out)), 1, [][]impl.Point{placesOf(far, -far, far, -far, far, 256-far, far, 256-far, far, -far)})
	checkBoundsOf(t, sceneOf(withMat(filledNode(1, 0, rect), out)), 1, impl.Box{X0: 32768, Y0: -32768, X1: 32769, Y1: -32766})
	all := impl.RectPath(impl.Box{X1: far, Y1: far})
	corners := placesOf(0, 0, far, 0, far, far, 0, far, 0, 0)
	checkShapeOf(t, sceneOf(withMat(filledNode(1, 0, all), grown(turnLimit))), 1, [][]impl.Point{corners})
	checkBoundsOf(t, sceneOf(withMat(filledNode(1, 0, all), grown(turnLimit))), 1, impl.Box{X1: 32769, Y1: 32769})
	checkClipOf(t, sceneOf(impl.Node{Id: 1, Group: true, Mat: grown(turnLimit), Mode: impl.Over, Clip: all}), 1, [][]impl.Point{corners})
	// A stroke at the limit goes past it.
	stroked := withMat(strokedNode(1, 0, pathOf(t, "M 0 0 L 0 100"), 512), impl.Shift(far, far-100))
	checkShapeOf(t, sceneOf(stroked), 1, [][]impl.Point{placesOf(far-256, far-100, far-256, far, far+256, far, far+256, far-100)})
	checkBoundsOf(t, sceneOf(stroked), 1, impl.Box{X0: 32767, Y0: 32767, X1: 32770, Y1: 32769})
	dashed := strokedNode(1, 0, pathOf(t, "M 0 0 L 10 0 M -400 0 L 500 0"), 2, 300, 100)
	dashed.Mat = impl.Shift(far, 0)
	checkShapeOf(t, sceneOf(dashed), 1, [][]impl.Point{placesOf(far-400, 1, far-100, 1, far-100, -1, far-400, -1)})
}

func TestShapeOfManyScenes(t *testing.T) {
	for i, s := range variedScenes() {
		for _, x := range s.Nodes {
			want := shapeByLibrary(s, x.Id)
			if got := impl.ShapeOf(s, x.Id); !sameLines(got, want) {
				t.Errorf("ShapeOf(%v, %d) = %v, want %v", s, x.Id, got, want)
			}
			if i%40 == 0 && len(want) < 60 {
				checkShapeOf(t, s, x.Id, want)
			}
		}
	}
}

func TestClipOfWithoutVerbs(t *testing.T) {
	for _, x := range []impl.Node{groupNode(1, 0), filledNode(1, 0, impl.RectPath(impl.Box{X1: 512, Y1: 256})), strokedNode(1, 0, impl.RectPath(impl.Box{X1: 9, Y1: 9}), 5, 1, 1)} {
		for _, clip := range []impl.Path{{}, {Verbs: []int{}, Points: []impl.Point{}}} {
			x.Clip = clip
			checkClipOf(t, sceneOf(x), 1, nil)
		}
	}
}

func TestClipOfWrittenOut(t *testing.T) {
	clip := pathOf(t, "M 0 0 Q 8 16 16 0 Z M 1 2 M 3 4 L 5 6")
	plain := [][]impl.Point{placesOf(0, 0, 4, 6, 8, 8, 12, 6, 16, 0, 0, 0), placesOf(1, 2), placesOf(3, 4, 5, 6)}
	turned := [][]impl.Point{placesOf(7, 0, 1, 4, -1, 8, 1, 12, 7, 16, 7, 0), placesOf(5, 1), placesOf(3, 3, 1, 5)}
	for _, x := range []impl.Node{groupNode(2, 1), filledNode(2, 1, impl.Path{}), otherShape(2, 1), strokedNode(2, 1, impl.RectPath(impl.Box{X1: 9, Y1: 9}), 5, 1, 1)} {
		x.Clip, x.Mat = clip, quarter
		above := groupNode(1, 0)
		// That of the one above is its own.
		above.Clip = impl.RectPath(impl.Box{X1: 3, Y1: 3})
		checkClipOf(t, sceneOf(above, withMat(x, impl.Still())), 2, plain)
		above.Mat = impl.Shift(7, 0)
		checkClipOf(t, sceneOf(above, x), 2, turned)
		checkClipOf(t, sceneOf(x, above), 2, turned)
		checkClipOf(t, sceneOf(x, above), 1, [][]impl.Point{placesOf(7, 0, 10, 0, 10, 3, 7, 3, 7, 0)})
	}
}

func TestClipOfManyScenes(t *testing.T) {
	for i, s := range variedScenes() {
		for _, x := range s.Nodes {
			want := clipByLibrary(s, x.Id)
			if got := impl.ClipOf(s, x.Id); !sameLines(got, want) {
				t.Errorf("ClipOf(%v, %d) = %v, want %v", s, x.Id, got, want)
			}
			if i%40 == 0 {
				checkClipOf(t, s, x.Id, want)
			}
		}
	}
}

func TestBoundsOfOneShape(t *testing.T) {
	for _, c := range []struct {
		text  string
		width int
		m     impl.Mat
		want  impl.Box
	}{
		{"M 0 0", 0, impl.Still(), impl.Box{X1: 1, Y1: 1}},
		{"M -1 255", 0, impl.Still(), impl.Box{X0: -1, X1: 0, Y1: 1}},
		{"M 256 -256", 0, impl.Still(), impl.Box{X0: 1, Y0: -1, X1: 2, Y1: 0}},
		{"M -257 511", 0, impl.Still(), impl.Box{X0: -2, Y0: 1, X1: -1, Y1: 2}},
		// The points at the right and the lower edge count, so the squares there do.
		{"M 0 0 L 256 0 L 256 256 L 0 256 Z", 0, impl.Still(), impl.Box{X1: 2, Y1: 2}},
		{"M 0 0 L 255 0 L 255 255 L 0 255 Z", 0, impl.Still(), impl.Box{X1: 1, Y1: 1}},
		{"M 0 0 L 256 0 L 256 256 L 0 256 Z", 0, quarter, impl.Box{X0: -1, X1: 1, Y1: 2}},
		{"M 0 0 L 256 0 L 256 256 L 0 256 Z", 0, grown(196608), impl.Box{X1: 4, Y1: 4}},
		{"M 0 0 L 256 0 L 256 256 L 0 256 Z", 0, impl.Mat{A: 46341, B: 46341, C: -46341, D: 46341}, impl.Box{X0: -1, X1: 1, Y1: 2}},
		{"M 0 0 L 256 0 L 256 256 L 0 256 Z", 0, impl.Mat{A: -131072, D: 32768, E: 100, F: 600}, impl.Box{X0: -2, Y0: 2, X1: 1, Y1: 3}},
		// A curve's own points count, not those that draw it near.
		{"M 0 0 Q 300 1000 600 0", 0, impl.Still(), impl.Box{X1: 3, Y1: 2}},
		{"M 0 0 L 600 0", 10, impl.Still(), impl.Box{Y0: -1, X1: 3, Y1: 1}},
		{"M 0 5 L 600 5", 10, impl.Still(), impl.Box{X1: 3, Y1: 1}},
		{"M 0 0 L 600 0", 512, impl.Still(), impl.Box{Y0: -1, X1: 3, Y1: 2}},
		{"M 0 0 L 600 0 L 600 600", 2048, impl.Still(), impl.Box{X0: -2, Y0: -4, X1: 7, Y1: 5}},
		{"M 7 7 Z", 10, impl.Still(), impl.Box{}},
		{"", 0, impl.Still(), impl.Box{}},
	} {
		x := withMat(strokedNode(4, 0, pathOf(t, c.text), c.width), c.m)
		x.Clip = impl.RectPath(impl.Box{X0: -9000, Y0: -9000, X1: 9000, Y1: 9000})
		checkBoundsOf(t, sceneOf(x), 4, c.want)
		checkBoundsOf(t, sceneOf(x), 0, impl.Box{})
	}
}

// Gaps have no bounds.
func TestBoundsOfDashes(t *testing.T) {
	x := strokedNode(1, 0, pathOf(t, "M 0 300 L 2000 300"), 10, 300, 20000)
	checkBoundsOf(t, sceneOf(x), 1, impl.Box{Y0: 1, X1: 2, Y1: 2})
	x.Dashes = []int{300, 1400}
	checkBoundsOf(t, sceneOf(x), 1, impl.Box{Y0: 1, X1: 8, Y1: 2})
	x.Width = 0
	checkBoundsOf(t, sceneOf(x), 1, impl.Box{Y0: 1, X1: 8, Y1: 2})
}

func TestBoundsOfGroups(t *testing.T) {
	clipped := groupNode(1, 0)
	clipped.Clip = impl.RectPath(impl.Box{X1: 512, Y1: 256})
	// No kids, kids that have nothing, and Groups without anything below Groups.
	none := filledNode(2, 1, impl.Path{})
	point := strokedNode(3, 1, pathOf(t, "M 900 900 Z"), 20)
	for _, s := range []impl.Scene{
		groupsOf(1, 0), sceneOf(clipped), sceneOf(clipped, none), sceneOf(none, clipped, point), groupsOf(1, 0, 2, 1, 3, 1, 4, 3),
		sceneOf(clipped, none, point, groupNode(4, 1), filledNode(5, 0, impl.RectPath(impl.Box{X1: 9, Y1: 9}))),
	} {
		checkBoundsOf(t, s, 1, impl.Box{})
	}
	// One shape far from 0, 0: what has nothing draws its box to no place.
	there := filledNode(4, 1, impl.RectPath(impl.Box{X0: 2560, Y0: -2560, X1: 2561, Y1: -2559}))
	only := impl.Box{X0: 10, Y0: -10, X1: 11, Y1: -9}
	for _, s := range []impl.Scene{
		sceneOf(clipped, there), sceneOf(there, clipped), sceneOf(clipped, none, there), sceneOf(clipped, there, none), sceneOf(clipped, none, there, point),
		sceneOf(there, none, point, clipped), sceneOf(clipped, there, groupNode(5, 1), groupNode(6, 5)),
	} {
		checkBoundsOf(t, s, 1, only)
		checkBoundsOf(t, s, 4, only)
		checkBoundsOf(t, s, 2, impl.Box{})
	}
}

func TestBoundsOfGroupsBelowGroups(t *testing.T) {
	square := impl.RectPath(impl.Box{X1: 255, Y1: 255})
	s := sceneOf(
		withMat(filledNode(5, 3, square), impl.Shift(256, 0)),
		withMat(groupNode(1, 0), impl.Shift(2560, 0)),
		withMat(filledNode(2, 1, square), impl.Shift(0, -512)),
		withMat(groupNode(3, 1), grown(131072)),
		withMat(groupNode(4, 3), impl.Shift(0, 512)),
		withMat(filledNode(6, 4, square), grown(32768)),
		withMat(filledNode(7, 0, square), impl.Shift(-9000, -9000)),
		withMat(groupNode(8, 0), quarter),
	)
	for id, want := range []impl.Box{
		{}, {X0: 10, Y0: -2, X1: 14, Y1: 5}, {X0: 10, Y0: -2, X1: 11, Y1: -1}, {X0: 10, X1: 14, Y1: 5}, {X0: 10, Y0: 4, X1: 11, Y1: 5},
		{X0: 12, X1: 14, Y1: 2}, {X0: 10, Y0: 4, X1: 11, Y1: 5}, {X0: -36, Y0: -36, X1: -34, Y1: -34}, {},
	} {
		checkBoundsOf(t, s, id, want)
		checkBoundsOf(t, turnedAround(s), id, want)
	}
}

func TestBoundsOfManyScenes(t *testing.T) {
	for i, s := range variedScenes() {
		for _, x := range s.Nodes {
			// A scene's order changes nothing of its bounds; they need not be worked out for each of the three.
			if i%3 == 0 {
				checkBoundsOf(t, s, x.Id, boundsByLibrary(s, x.Id))
			}
		}
	}
}

// The lists of all nodes are one and the same memory; those that come are not.
func TestShapesOfNodesThatShareTheirLists(t *testing.T) {
	shared := roomyNode(filledNode(1, 0, pathOf(t, "M 1 2 L 300 4 L 5 600 Z")))
	shared.Clip = shared.Path
	s := impl.Scene{}
	for id := 1; id <= 4; id++ {
		shared.Id, shared.Width = id, id/3*100
		s.Nodes = append(s.Nodes, shared)
	}
	before := roomyScene(s)
	for id := 1; id <= 4; id++ {
		want := shapeByLibrary(s, id)
		shape, clip := impl.ShapeOf(s, id), impl.ClipOf(s, id)
		checkNoSharedRoom(t, slices.Concat(shape, clip), slices.Concat(want, clipByLibrary(s, id)))
		checkBoundsOf(t, s, id, boundsByLibrary(s, id))
		if !sameScene(s, before) {
			t.Fatalf("what is asked of %d changed what was handed in: %v", id, s)
		}
	}
}

// However long the lists of a wrong scene are, and however many nodes it has.
func TestShapesOfGreatWrongScenes(t *testing.T) {
	long := shapeNode(1, 0)
	long.Path = impl.Path{Verbs: slices.Repeat([]int{impl.MoveTo}, 700), Points: dots(700)}
	long.Dashes = slices.Repeat([]int{1}, 500)
	many := impl.Scene{Nodes: slices.Repeat([]impl.Node{long, {}, {Id: math.MinInt, Parent: math.MaxInt, Mode: -1}}, 400)}
	for _, s := range []impl.Scene{sceneOf(long), many, chainOf(3000), plusNode(many, shapeNode(2, 0))} {
		for _, id := range []int{0, 1, 2, math.MinInt, math.MaxInt} {
			checkNowhere(t, s, id)
			checkBoundsOf(t, s, id, impl.Box{})
		}
	}
}

func squareOf(p impl.Point) impl.Point {
	return impl.Point{X: p.X >> 8, Y: p.Y >> 8}
}

func TestPromise17BoundsHaveAllPointsBelow(t *testing.T) {
	points, turned := 0, 0
	for _, s := range variedScenes() {
		for _, x := range s.Nodes {
			bounds := impl.BoundsOf(s, x.Id)
			for _, below := range idsBelow(s, x.Id) {
				for _, p := range slices.Concat(impl.ShapeOf(s, below)...) {
					if !hasPoint(bounds, squareOf(p)) {
						t.Fatalf("BoundsOf(%v, %d) = %v has not %v of %d", s, x.Id, bounds, p, below)
					}
					points++
				}
				if m, _ := impl.MatOf(s, below); m.B != 0 {
					turned++
				}
			}
		}
	}
	if points < 50000 || turned < 300 {
		t.Errorf("these were %d points, and %d turned nodes", points, turned)
	}
}

// What a node has, the one above it has; and a box by one square less, on any side, leaves some point out.
func TestPromise17BoundsAreNoMoreThanNeeded(t *testing.T) {
	for _, s := range variedScenes() {
		for _, x := range s.Nodes {
			bounds := impl.BoundsOf(s, x.Id)
			above := impl.BoundsOf(s, x.Parent)
			if x.Parent != 0 && impl.JoinBox(above, bounds) != above {
				t.Errorf("the bounds %v of %d are not in those of %d, %v, in %v", bounds, x.Id, x.Parent, above, s)
			}
			if x.Group {
				all := impl.Box{}
				for _, kid := range kidsByHand(s, x.Id) {
					all = impl.JoinBox(all, impl.BoundsOf(s, kid))
				}
				if all != bounds {
					t.Errorf("the bounds of %d are %v, its kids' %v, in %v", x.Id, bounds, all, s)
				}
				continue
			}
			if want := squaresAround(slices.Concat(impl.ShapeOf(s, x.Id)...)); bounds != want {
				t.Errorf("the bounds of %d are %v, its squares are in %v, in %v", x.Id, bounds, want, s)
			}
		}
	}
}
