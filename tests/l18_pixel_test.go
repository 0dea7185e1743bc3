package tests

import (
	"slices"
	"testing"

	"loop.example/g00190/impl"
)

type bitsOf func(s impl.Scene, id int, x int, y int) int

// Squares that there are none of: one number, or both, is past the limits.
func noSquares() []impl.Point {
	squares := []impl.Point{}
	for i, wrong := range wrongSquares {
		other := wrongSquares[(i+5)%len(wrongSquares)]
		squares = append(squares, impl.Point{X: wrong}, impl.Point{Y: wrong}, impl.Point{X: wrong, Y: 1}, impl.Point{X: -1, Y: wrong}, impl.Point{X: wrong, Y: other})
	}
	return squares
}

func withClip(x impl.Node, clip impl.Path) impl.Node {
	x.Clip = clip
	return x
}

func withManner(x impl.Node, mode int, fade int) impl.Node {
	x.Mode, x.Fade = mode, fade
	return x
}

func withPaint(x impl.Node, p impl.Paint) impl.Node {
	x.Paint = p
	return x
}

func evenly(x impl.Node) impl.Node {
	x.Even = true
	return x
}

// The squares of a box as a path.
func squaresPath(x0 int, y0 int, wide int, high int) impl.Path {
	return impl.RectPath(impl.Box{X0: 256 * x0, Y0: 256 * y0, X1: 256 * (x0 + wide), Y1: 256 * (y0 + high)})
}

// What has just these points of the square 0, 0.
func pathOfBits(bits int) impl.Path {
	p := impl.Path{}
	for place := range 4 {
		if bits>>place&1 == 1 {
			x, y := place%2*128, place/2*128
			quarter := impl.RectPath(impl.Box{X0: x, Y0: y, X1: x + 128, Y1: y + 128})
			p.Verbs, p.Points = append(p.Verbs, quarter.Verbs...), append(p.Points, quarter.Points...)
		}
	}
	return p
}

func fullOf(r int, g int, b int) impl.Paint {
	return plainOf(r, g, b, 255)
}

// Two paths as one.
func bothPaths(a impl.Path, b impl.Path) impl.Path {
	return impl.Path{Verbs: slices.Concat(a.Verbs, b.Verbs), Points: slices.Concat(a.Points, b.Points)}
}

func turnedPath(p impl.Path) impl.Path {
	return impl.Path{Verbs: p.Verbs, Points: backwards(p.Points)}
}

// A right scene as it lies in the picture, its lines worked out once for all squares.
type drawing struct {
	scene  impl.Scene
	shapes map[int][][]impl.Point
	clips  map[int][][]impl.Point
}

func drawingOf(s impl.Scene) drawing {
	d := drawing{scene: s, shapes: map[int][][]impl.Point{}, clips: map[int][][]impl.Point{}}
	for _, x := range s.Nodes {
		d.shapes[x.Id], d.clips[x.Id] = shapeByLibrary(s, x.Id), clipByLibrary(s, x.Id)
	}
	return d
}

func isSquare(x int, y int) bool {
	return -2000 <= x && x <= 2000 && -2000 <= y && y <= 2000
}

func maskInLimits(lines [][]impl.Point, even bool, x int, y int) int {
	if !isSquare(x, y) {
		return 0
	}
	return maskByCrossings(lines, even, x, y)
}

func (d drawing) clipBits(id int, x int, y int) int {
	place := placeByHand(d.scene, id)
	if place < 0 {
		return 0
	}
	above := aboveByClosure(d.scene)[place]
	bits := 15
	for i, n := range d.scene.Nodes {
		if (i == place || above[i]) && len(n.Clip.Verbs) > 0 {
			bits &= maskInLimits(d.clips[n.Id], false, x, y)
		}
	}
	return bits
}

func (d drawing) ownBits(id int, x int, y int) int {
	place := placeByHand(d.scene, id)
	if place < 0 {
		return 0
	}
	n := d.scene.Nodes[place]
	return maskInLimits(d.shapes[id], n.Even && n.Width == 0, x, y) & d.clipBits(id, x, y)
}

func (d drawing) colorOf(id int, x int, y int) impl.Color {
	c := impl.Color{}
	if id != 0 && (placeByHand(d.scene, id) < 0 || !d.scene.Nodes[placeByHand(d.scene, id)].Group) {
		return c
	}
	for _, n := range d.scene.Nodes {
		if n.Parent != id {
			continue
		}
		comes := impl.Color{}
		if n.Group {
			comes = d.colorOf(n.Id, x, y)
		} else if bits := d.ownBits(n.Id, x, y); bits != 0 {
			comes = lessenedByLibrary(colorByLibrary(n.Paint, x, y), countByHand(bits), 4)
		} else {
			continue
		}
		c = blendByLibrary(n.Mode, lessenedByLibrary(comes, n.Fade, 255), c)
	}
	return c
}

// The places of a node and of those above it, from the outermost on: in their order the nodes are painted.
func placesDownTo(s impl.Scene, id int) []int {
	places := []int{}
	for at := placeByHand(s, id); at >= 0; at = placeByHand(s, s.Nodes[at].Parent) {
		places = append(places, at)
	}
	slices.Reverse(places)
	return places
}

func paintedOrder(s impl.Scene) []int {
	ids := []int{}
	for _, x := range s.Nodes {
		ids = append(ids, x.Id)
	}
	slices.SortFunc(ids, func(a int, b int) int { return slices.Compare(placesDownTo(s, a), placesDownTo(s, b)) })
	return ids
}

func (d drawing) hitOf(x int, y int) int {
	hit := 0
	for _, id := range paintedOrder(d.scene) {
		if d.ownBits(id, x, y)&8 == 8 {
			hit = id
		}
	}
	return hit
}

func checkBits(t *testing.T, name string, ask bitsOf, s impl.Scene, id int, x int, y int, want int) {
	t.Helper()
	roomy := roomyScene(s)
	if got := ask(roomy, id, x, y); got != want {
		t.Errorf("%s(%v, %d, %d, %d) = %d, want %d", name, s, id, x, y, got, want)
	}
	checkLeft(t, name, roomy, s)
}

func checkClipBits(t *testing.T, s impl.Scene, id int, x int, y int, want int) {
	t.Helper()
	checkBits(t, "ClipBits", impl.ClipBits, s, id, x, y, want)
}

func checkOwnBits(t *testing.T, s impl.Scene, id int, x int, y int, want int) {
	t.Helper()
	checkBits(t, "OwnBits", impl.OwnBits, s, id, x, y, want)
}

func checkEachBits(t *testing.T, name string, ask bitsOf, s impl.Scene, id int, want impl.Mask) {
	t.Helper()
	for y := want.Box.Y0; y < want.Box.Y1; y++ {
		for x := want.Box.X0; x < want.Box.X1; x++ {
			checkBits(t, name, ask, s, id, x, y, bitsByHand(want, x, y))
		}
	}
}

// Of the squares 0, 0 to 3, 1, in two rows of figures.
func checkClipRows(t *testing.T, s impl.Scene, id int, upper string, lower string) {
	t.Helper()
	checkEachBits(t, "ClipBits", impl.ClipBits, s, id, maskFrom(0, 0, upper, lower))
}

func checkOwnRows(t *testing.T, s impl.Scene, id int, upper string, lower string) {
	t.Helper()
	checkEachBits(t, "OwnBits", impl.OwnBits, s, id, maskFrom(0, 0, upper, lower))
}

func checkColorOf(t *testing.T, s impl.Scene, id int, x int, y int, want impl.Color) {
	t.Helper()
	roomy := roomyScene(s)
	if got := impl.ColorOf(roomy, id, x, y); got != want {
		t.Errorf("ColorOf(%v, %d, %d, %d) = %v, want %v", s, id, x, y, got, want)
	}
	checkLeft(t, "ColorOf", roomy, s)
}

func checkHitOf(t *testing.T, s impl.Scene, x int, y int, want int) {
	t.Helper()
	roomy := roomyScene(s)
	if got := impl.HitOf(roomy, x, y); got != want {
		t.Errorf("HitOf(%v, %d, %d) = %d, want %d", s, x, y, got, want)
	}
	checkLeft(t, "HitOf", roomy, s)
}

func checkSquareIsNothing(t *testing.T, s impl.Scene, id int, x int, y int) {
	t.Helper()
	checkClipBits(t, s, id, x, y, 0)
	checkOwnBits(t, s, id, x, y, 0)
	checkColorOf(t, s, id, x, y, impl.Color{})
}

// The scene's nodes lie in a small picture, over each other; some are clipped, some are clear, some are nowhere.
func picturedScene(s impl.Scene, seed int) impl.Scene {
	mats := []impl.Mat{
		impl.Still(), impl.Still(), impl.Shift(300, -200), impl.Shift(-90, 77), {B: 65536, C: -65536, E: 900}, grown(32768), grown(98304), grown(40000),
		{A: 46341, B: 46341, C: -46341, D: 46341, E: 500, F: 64}, {A: -65536, D: 65537, E: 1000}, grown(524288),
	}
	paths := []impl.Path{
		squaresPath(0, 0, 4, 4), squaresPath(1, 1, 2, 3), impl.RectPath(impl.Box{X0: 100, Y0: 130, X1: 900, Y1: 700}),
		{Verbs: []int{1, 3, 3, 5}, Points: placesOf(10, 500, 500, -400, 1000, 500, 500, 1300, 20, 520)},
		{Verbs: []int{1, 4, 2}, Points: placesOf(0, 0, 1600, 300, -500, 700, 1000, 1000, 100, 900)},
		bothPaths(squaresPath(0, 0, 3, 3), squaresPath(1, 1, 3, 3)), bothPaths(squaresPath(0, 0, 4, 4), turnedPath(squaresPath(1, 1, 2, 2))),
		{Verbs: []int{1, 2, 2, 2, 2, 5}, Points: placesOf(500, 0, 800, 1000, 0, 300, 1000, 300, 200, 1000)},
		{Verbs: []int{1, 2, 2}, Points: placesOf(50, 50, 900, 200, 300, 950)},
	}
	clips := append([]impl.Path{{}, {}, {}, {}, {}, {}, {Verbs: []int{1, 5}, Points: placesOf(9, 9)}}, paths...)
	paints := []impl.Paint{fullOf(255, 0, 0), fullOf(10, 200, 90), plainOf(0, 60, 255, 128), plainOf(255, 255, 255, 40), slopeFrom(0, 0, 1000, 300), slopeFrom(700, 900, 100, 0), plainOf(1, 2, 3, 0)}
	pictured := impl.Scene{}
	for i, x := range s.Nodes {
		n := seed*8 + i
		y := withClip(withMat(groupNode(x.Id, x.Parent), mats[mixed(n, 1, len(mats))]), clips[mixed(n, 2, len(clips))])
		y = withManner(y, 1+mixed(n, 3, 5), []int{255, 255, 128, 200, 7, 0}[mixed(n, 4, 6)])
		if !x.Group {
			y.Group, y.Path, y.Paint, y.Even = false, paths[mixed(n, 5, len(paths))], paints[mixed(n, 6, len(paints))], mixed(n, 7, 2) == 0
			y.Width = []int{0, 0, 0, 90, 200}[mixed(n, 8, 5)]
			y.Dashes = [][]int{nil, {250, 100}}[mixed(n, 9, 2)]
		}
		pictured.Nodes = append(pictured.Nodes, y)
	}
	return pictured
}

func picturedScenes() []impl.Scene {
	scenes := []impl.Scene{}
	for i, s := range rightScenes() {
		// Those of Groups alone have nothing to be seen.
		if slices.ContainsFunc(s.Nodes, func(x impl.Node) bool { return !x.Group }) {
			scenes = append(scenes, picturedScene(s, i))
		}
	}
	return scenes
}

func TestPicturedScenesAreRight(t *testing.T) {
	clipped, seen := 0, 0
	for _, s := range picturedScenes() {
		if !impl.SceneOk(s) {
			t.Errorf("%v is not right", s)
		}
		for _, x := range s.Nodes {
			clip := impl.ClipBits(s, x.Id, 1, 1)
			if clip > 0 && clip < 15 {
				clipped++
			}
		}
		if impl.ColorOf(s, 0, 1, 1) != (impl.Color{}) {
			seen++
		}
	}
	if clipped < 100 || seen < 200 {
		t.Errorf("of these %d nodes are clipped in the midst of a square, and %d scenes are to be seen in it", clipped, seen)
	}
}

func TestSquaresOfWrongScenes(t *testing.T) {
	for _, s := range wrongScenes() {
		for _, id := range append([]int{1, 2, 3, 9, 99}, strangeIds...) {
			checkSquareIsNothing(t, s, id, 0, 0)
		}
		checkHitOf(t, s, 0, 0, 0)
	}
	// One wrong node spoils all of them.
	s := sceneOf(groupNode(1, 0), filledNode(2, 1, squaresPath(0, 0, 1, 1)), filledNode(3, 0, squaresPath(0, 0, 1, 1)), groupNode(4, 0))
	checkOwnBits(t, s, 2, 0, 0, 15)
	checkHitOf(t, s, 0, 0, 3)
	for place := range s.Nodes {
		bad := s.Nodes[place]
		bad.Fade = 256
		for id := range 5 {
			checkSquareIsNothing(t, withNode(s, place, bad), id, 0, 0)
		}
		checkHitOf(t, withNode(s, place, bad), 0, 0, 0)
	}
}

func TestSquaresOfNodesThatAreNotThere(t *testing.T) {
	for _, s := range []impl.Scene{{}, {Nodes: []impl.Node{}}, groupsOf(1, 0), sevenNodes(), eightNodes(), sceneOf(filledNode(99, 0, squaresPath(0, 0, 1, 1)))} {
		for _, id := range append([]int{9, 98}, strangeIds...) {
			checkClipBits(t, s, id, 0, 0, 0)
			checkOwnBits(t, s, id, 0, 0, 0)
			if id != 0 {
				checkColorOf(t, s, id, 0, 0, impl.Color{})
			}
		}
	}
	for _, p := range fewSquares {
		checkSquareIsNothing(t, impl.Scene{}, 0, p.X, p.Y)
		checkHitOf(t, impl.Scene{}, p.X, p.Y, 0)
	}
}

// A node in the room behind the list is none of the scene.
func TestSquaresPassOverTheRoomBehind(t *testing.T) {
	shape := filledNode(3, 1, squaresPath(0, 0, 1, 1))
	s := impl.Scene{Nodes: sceneOf(groupNode(1, 0), groupNode(2, 0), shape).Nodes[:2]}
	checkSquareIsNothing(t, s, 3, 0, 0)
	checkColorOf(t, s, 0, 0, 0, impl.Color{})
	checkHitOf(t, s, 0, 0, 0)
}

func TestClipBitsWithoutAny(t *testing.T) {
	s := sceneOf(groupNode(1, 0), filledNode(2, 1, squaresPath(0, 0, 1, 1)), strokedNode(3, 0, pathOf(t, "M 0 0 L 300 0"), 20), groupNode(4, 1))
	s.Nodes[3].Clip = impl.Path{Verbs: []int{}, Points: []impl.Point{}}
	// No Clip has a limit either.
	for _, p := range append(noSquares(), fewSquares...) {
		for id := 1; id <= 4; id++ {
			checkClipBits(t, s, id, p.X, p.Y, 15)
		}
	}
}

func TestClipBitsOfItsOwnClip(t *testing.T) {
	for bits := 1; bits < 16; bits++ {
		for _, x := range []impl.Node{groupNode(1, 0), filledNode(1, 0, squaresPath(0, 0, 4, 2)), evenly(strokedNode(1, 0, pathOf(t, "M 0 0 L 300 0"), 20, 9, 9))} {
			checkClipRows(t, sceneOf(withClip(x, pathOfBits(bits))), 1, hexFigures[bits:bits+1]+"000", "0000")
			checkClipRows(t, sceneOf(withMat(withClip(x, pathOfBits(bits)), impl.Shift(512, 256))), 1, "0000", "00"+hexFigures[bits:bits+1]+"0")
		}
	}
	x := withClip(filledNode(1, 0, impl.Path{}), impl.RectPath(impl.Box{X0: 100, Y0: 100, X1: 800, Y1: 300}))
	checkClipRows(t, sceneOf(x), 1, "8cc0", "0000")
	checkClipRows(t, sceneOf(withMat(x, grown(32768))), 1, "3100", "0000")
	checkClipRows(t, sceneOf(withMat(x, grown(131072))), 1, "0000", "0fff")
}

// Each Clip lies where its own node is.
func TestClipBitsOfThoseAbove(t *testing.T) {
	left, upper, most := squaresPath(0, 0, 2, 2), impl.RectPath(impl.Box{X1: 1024, Y1: 384}), impl.RectPath(impl.Box{X0: 128, X1: 1024, Y1: 512})
	s := sceneOf(withClip(groupNode(1, 0), left), withClip(groupNode(2, 1), upper), withClip(groupNode(3, 2), most), filledNode(4, 3, impl.Path{}))
	for _, order := range []impl.Scene{s, turnedAround(s), sceneOf(s.Nodes[2], s.Nodes[0], s.Nodes[3], s.Nodes[1])} {
		checkClipRows(t, order, 1, "ff00", "ff00")
		checkClipRows(t, order, 2, "ff00", "3300")
		checkClipRows(t, order, 3, "af00", "2300")
		checkClipRows(t, order, 4, "af00", "2300")
	}
	without := withNode(s, 1, groupNode(2, 1))
	checkClipRows(t, without, 2, "ff00", "ff00")
	checkClipRows(t, without, 4, "af00", "af00")
	without = withNode(s, 0, groupNode(1, 0))
	checkClipRows(t, without, 1, "ffff", "ffff")
	checkClipRows(t, without, 4, "afff", "2333")
	moved := withNode(s, 1, withMat(s.Nodes[1], impl.Shift(256, 0)))
	checkClipRows(t, moved, 1, "ff00", "ff00")
	checkClipRows(t, moved, 2, "0f00", "0300")
	checkClipRows(t, moved, 4, "0a00", "0200")
	moved = withNode(s, 0, withMat(s.Nodes[0], impl.Shift(256, 0)))
	checkClipRows(t, moved, 4, "0af0", "0230")
}

// Of those beside and below none has a say.
func TestClipBitsOfOthers(t *testing.T) {
	s := sceneOf(
		groupNode(1, 0), withClip(groupNode(2, 0), squaresPath(0, 0, 1, 1)), withClip(groupNode(3, 1), squaresPath(0, 0, 2, 1)), groupNode(4, 1),
		withClip(filledNode(5, 4, squaresPath(0, 0, 4, 2)), squaresPath(3, 0, 1, 2)), withClip(filledNode(6, 3, impl.Path{}), squaresPath(1, 0, 2, 2)), filledNode(7, 3, impl.Path{}),
	)
	for id, rows := range [][2]string{{}, {"ffff", "ffff"}, {"f000", "0000"}, {"ff00", "0000"}, {"ffff", "ffff"}, {"000f", "000f"}, {"0f00", "0000"}, {"ff00", "0000"}} {
		if id > 0 {
			checkClipRows(t, s, id, rows[0], rows[1])
			checkClipRows(t, turnedAround(s), id, rows[0], rows[1])
		}
	}
}

// A Clip of verbs that has nothing leaves nothing, be it the node's own or one above.
func TestClipBitsOfClipsThatCoverNothing(t *testing.T) {
	for _, text := range []string{
		"M 0 0", "M 128 128 Z", "M 0 0 M 300 300", "M 0 0 L 512 512", "M 0 100 L 512 100 Z", "M 0 0 Q 100 100 200 200", "M 2560 0 L 2816 0 L 2816 256 Z",
		"M 65 65 L 191 65 L 191 191 L 65 191 Z", "M 65 65 L 192 65 L 192 192 L 65 192 Z", "M -256 0 L 64 0 L 64 64 L -256 64 Z",
	} {
		clip := pathOf(t, text)
		s := sceneOf(withClip(groupNode(1, 0), clip), withClip(groupNode(2, 1), squaresPath(0, 0, 1, 1)), filledNode(3, 2, squaresPath(0, 0, 1, 1)), withClip(filledNode(4, 0, squaresPath(0, 0, 1, 1)), clip))
		for id := 1; id <= 4; id++ {
			checkClipBits(t, s, id, 0, 0, 0)
			checkOwnBits(t, s, id, 0, 0, 0)
		}
		checkColorOf(t, s, 0, 0, 0, impl.Color{})
		checkHitOf(t, s, 0, 0, 0)
	}
	// Two that have nothing in common.
	s := sceneOf(withClip(groupNode(1, 0), pathOfBits(5)), withClip(filledNode(2, 1, squaresPath(0, 0, 1, 1)), pathOfBits(10)))
	checkClipBits(t, s, 1, 0, 0, 5)
	checkClipBits(t, s, 2, 0, 0, 0)
}

// No Clip is even, nor is one that winds the other way round less.
func TestClipBitsOfClipsThatWindTwice(t *testing.T) {
	square := squaresPath(0, 0, 2, 1)
	twice, back, less := bothPaths(square, square), turnedPath(square), bothPaths(square, turnedPath(squaresPath(0, 0, 1, 1)))
	over := bothPaths(squaresPath(0, 0, 2, 1), squaresPath(1, 0, 2, 1))
	for _, x := range []impl.Node{groupNode(2, 1), filledNode(2, 1, squaresPath(0, 0, 9, 9)), evenly(filledNode(2, 1, squaresPath(0, 0, 9, 9)))} {
		above := withClip(groupNode(1, 0), twice)
		checkClipRows(t, sceneOf(above, x), 2, "ff00", "0000")
		checkClipRows(t, sceneOf(groupNode(1, 0), withClip(x, twice)), 2, "ff00", "0000")
		checkClipRows(t, sceneOf(groupNode(1, 0), withClip(x, back)), 2, "ff00", "0000")
		checkClipRows(t, sceneOf(groupNode(1, 0), withClip(x, bothPaths(twice, square))), 2, "ff00", "0000")
		checkClipRows(t, sceneOf(groupNode(1, 0), withClip(x, less)), 2, "0f00", "0000")
		checkClipRows(t, sceneOf(groupNode(1, 0), withClip(x, over)), 2, "fff0", "0000")
		checkClipRows(t, sceneOf(above, withClip(x, over)), 2, "ff00", "0000")
	}
}

// Where there is no Mat, a Clip has no lines, and leaves nothing; one without verbs leaves all.
func TestClipBitsWhereMatOfIsFalse(t *testing.T) {
	five, half, all := grown(327680), grown(32768), squaresPath(-9, -9, 99, 99)
	shape := filledNode(3, 2, squaresPath(0, 0, 9, 9))
	s := sceneOf(withMat(groupNode(1, 0), five), withMat(groupNode(2, 1), five), withMat(shape, half))
	for _, p := range fewSquares {
		for id := 1; id <= 3; id++ {
			checkClipBits(t, s, id, p.X, p.Y, 15)
		}
	}
	checkOwnBits(t, s, 3, 0, 0, 15)
	// 2 has no Mat, while 3, below it, has one.
	spoiled := withNode(s, 1, withClip(s.Nodes[1], all))
	checkClipBits(t, spoiled, 1, 0, 0, 15)
	checkClipBits(t, spoiled, 2, 0, 0, 0)
	checkClipBits(t, spoiled, 3, 0, 0, 0)
	checkOwnBits(t, spoiled, 3, 0, 0, 0)
	checkColorOf(t, spoiled, 0, 0, 0, impl.Color{})
	checkHitOf(t, spoiled, 0, 0, 0)
	clipped := withNode(withNode(s, 0, withClip(s.Nodes[0], pathOfBits(1))), 2, withClip(s.Nodes[2], all))
	checkClipBits(t, clipped, 2, 0, 0, 15)
	checkClipBits(t, clipped, 2, 1, 1, 15)
	checkClipBits(t, clipped, 2, 2, 2, 1)
	checkClipBits(t, clipped, 2, 3, 3, 0)
	checkClipBits(t, clipped, 3, 2, 2, 1)
	// 3 has no Mat itself: its shape is nowhere, its Clip leaves nothing, one above leaves what it does.
	nowhere := withNode(s, 2, withMat(shape, five))
	checkClipBits(t, nowhere, 3, 0, 0, 15)
	checkOwnBits(t, nowhere, 3, 0, 0, 0)
	nowhere = withNode(nowhere, 0, withClip(s.Nodes[0], squaresPath(0, 0, 1, 1)))
	checkClipBits(t, nowhere, 3, 0, 0, 15)
	checkClipBits(t, nowhere, 3, 5, 0, 0)
	nowhere = withNode(nowhere, 2, withClip(nowhere.Nodes[2], all))
	checkClipBits(t, nowhere, 3, 0, 0, 0)
	checkHitOf(t, nowhere, 0, 0, 0)
}

// Clips and shapes have limits: no square past them lies in any.
func TestSquaresPastTheLimits(t *testing.T) {
	all := impl.RectPath(impl.Box{X0: -impl.Far, Y0: -impl.Far, X1: impl.Far, Y1: impl.Far})
	s := sceneOf(withClip(groupNode(1, 0), all), withPaint(filledNode(2, 1, all), fullOf(1, 2, 3)), withPaint(filledNode(3, 0, all), slopeFrom(0, 0, 100, 100)))
	for _, p := range noSquares() {
		for id := 1; id <= 2; id++ {
			checkClipBits(t, s, id, p.X, p.Y, 0)
		}
		checkClipBits(t, s, 3, p.X, p.Y, 15)
		for id := range 4 {
			checkOwnBits(t, s, id, p.X, p.Y, 0)
			checkColorOf(t, s, id, p.X, p.Y, impl.Color{})
		}
		checkHitOf(t, s, p.X, p.Y, 0)
	}
	for _, p := range []impl.Point{{X: 2000, Y: 2000}, {X: -2000, Y: 2000}, {X: -2000, Y: -2000}, {X: 2000, Y: -2000}, {X: 2000}, {Y: -2000}} {
		checkClipBits(t, s, 2, p.X, p.Y, 15)
		checkOwnBits(t, s, 2, p.X, p.Y, 15)
		checkOwnBits(t, s, 3, p.X, p.Y, 15)
		checkColorOf(t, s, 1, p.X, p.Y, impl.Color{R: 1, G: 2, B: 3, A: 255})
		checkHitOf(t, s, p.X, p.Y, 3)
	}
	checkColorOf(t, s, 0, 2000, 2000, impl.Color{R: 200, G: 100, B: 50, A: 255})
	checkColorOf(t, s, 0, -2000, -2000, impl.Color{R: 1, G: 2, B: 3, A: 255})
}

func TestOwnBitsOfGroups(t *testing.T) {
	s := sceneOf(groupNode(1, 0), withClip(groupNode(2, 1), squaresPath(0, 0, 1, 1)), filledNode(3, 2, squaresPath(0, 0, 1, 1)), groupNode(4, 0))
	for _, id := range []int{1, 2, 4} {
		checkOwnRows(t, s, id, "0000", "0000")
	}
	checkOwnRows(t, s, 3, "f000", "0000")
}

func TestOwnBitsOfEachBits(t *testing.T) {
	for bits := range 16 {
		for clip := 1; clip < 16; clip++ {
			x := filledNode(2, 1, pathOfBits(bits))
			checkOwnBits(t, sceneOf(groupNode(1, 0), withClip(x, pathOfBits(clip))), 2, 0, 0, bits&clip)
			checkOwnBits(t, sceneOf(withClip(groupNode(1, 0), pathOfBits(clip)), x), 2, 0, 0, bits&clip)
			checkOwnBits(t, sceneOf(withClip(groupNode(1, 0), pathOfBits(clip)), withClip(x, pathOfBits(13))), 2, 0, 0, bits&clip&13)
		}
		checkOwnBits(t, sceneOf(groupNode(1, 0), filledNode(2, 1, pathOfBits(bits))), 2, 0, 0, bits)
	}
}

func TestOwnBitsOfEvenShapes(t *testing.T) {
	// The square 1, 0 lies in both.
	over := bothPaths(squaresPath(0, 0, 2, 1), squaresPath(1, 0, 2, 1))
	checkOwnRows(t, sceneOf(filledNode(1, 0, over)), 1, "fff0", "0000")
	checkOwnRows(t, sceneOf(evenly(filledNode(1, 0, over))), 1, "f0f0", "0000")
	// Around and back again: 0 in all, even or not.
	back := bothPaths(squaresPath(0, 0, 2, 1), turnedPath(squaresPath(1, 0, 2, 1)))
	checkOwnRows(t, sceneOf(filledNode(1, 0, back)), 1, "f0f0", "0000")
	checkOwnRows(t, sceneOf(evenly(filledNode(1, 0, back))), 1, "f0f0", "0000")
	thrice := bothPaths(over, squaresPath(1, 0, 1, 2))
	checkOwnRows(t, sceneOf(filledNode(1, 0, thrice)), 1, "fff0", "0f00")
	checkOwnRows(t, sceneOf(evenly(filledNode(1, 0, thrice))), 1, "fff0", "0f00")
	// The Clip of one that is even is not; and no other node's Even counts.
	clipped := withClip(evenly(filledNode(2, 1, over)), over)
	checkOwnRows(t, sceneOf(withClip(groupNode(1, 0), over), clipped, evenly(filledNode(3, 0, over))), 2, "f0f0", "0000")
	plain := withClip(filledNode(2, 1, over), over)
	checkOwnRows(t, sceneOf(withClip(groupNode(1, 0), over), plain, evenly(filledNode(3, 0, over))), 2, "fff0", "0000")
}

// Where a stroke goes over itself it winds twice. Its edges wind one way and the square at its corner the other: what lies in one of each lies in none.
func TestOwnBitsOfEvenStrokes(t *testing.T) {
	for _, c := range []struct{ text, upper, lower string }{
		{"M 0 256 L 512 256", "cc00", "3300"},
		{"M 0 256 L 512 256 M 256 256 L 768 256", "ccc0", "3330"},
		{"M 0 256 L 512 256 L 0 256", "cc40", "3310"},
		{"M 0 256 L 512 256 L 512 512", "c440", "3b40"},
	} {
		x := strokedNode(1, 0, pathOf(t, c.text), 256)
		checkOwnRows(t, sceneOf(x), 1, c.upper, c.lower)
		checkOwnRows(t, sceneOf(evenly(x)), 1, c.upper, c.lower)
	}
	// The same path, filled: here Even counts.
	twice := bothPaths(squaresPath(0, 0, 2, 1), squaresPath(0, 0, 2, 1))
	checkOwnRows(t, sceneOf(evenly(filledNode(1, 0, twice))), 1, "0000", "0000")
	checkOwnRows(t, sceneOf(evenly(strokedNode(1, 0, twice, 1024))), 1, "ffff", "ffff")
	checkOwnRows(t, sceneOf(evenly(strokedNode(1, 0, twice, 1024, 300, 1))), 1, "ffff", "ffff")
}

func TestOwnBitsOfOneShape(t *testing.T) {
	x := filledNode(1, 0, impl.RectPath(impl.Box{X0: 100, Y0: 100, X1: 800, Y1: 300}))
	checkOwnRows(t, sceneOf(x), 1, "8cc0", "0000")
	checkOwnRows(t, sceneOf(withMat(x, impl.Shift(0, 100))), 1, "0000", "2330")
	checkOwnRows(t, sceneOf(withMat(x, quarter)), 1, "0000", "0000")
	checkOwnRows(t, sceneOf(withMat(x, impl.Mat{A: 65536, D: 65536, E: -128, F: -128})), 1, "3310", "0000")
	checkOwnRows(t, sceneOf(withMat(groupNode(2, 0), grown(131072)), withMat(filledNode(1, 2, x.Path), impl.Shift(0, -50))), 1, "0ccc", "0fff")
	checkOwnRows(t, sceneOf(filledNode(1, 0, pathOf(t, "M 0 0 L 1024 0 L 0 512"))), 1, "ff71", "7100")
	checkOwnRows(t, sceneOf(filledNode(1, 0, impl.Path{})), 1, "0000", "0000")
	checkOwnRows(t, sceneOf(filledNode(1, 0, pathOf(t, "M 64 64 L 900 64"))), 1, "0000", "0000")
}

func TestOwnBitsWhereMatOfIsFalse(t *testing.T) {
	five := grown(327680)
	all := squaresPath(-9, -9, 99, 99)
	s := sceneOf(withMat(groupNode(1, 0), five), withMat(filledNode(2, 1, all), five), withMat(strokedNode(3, 1, all, 2048), five), filledNode(4, 0, squaresPath(0, 0, 1, 1)))
	for _, id := range []int{1, 2, 3} {
		checkOwnRows(t, s, id, "0000", "0000")
	}
	checkColorOf(t, s, 0, 0, 0, laidByLibrary(s.Nodes[3].Paint.First))
	checkColorOf(t, s, 1, 0, 0, impl.Color{})
	checkHitOf(t, s, 0, 0, 4)
	checkHitOf(t, s, 1, 0, 0)
}

// The node as the only one that is painted, in a Group and by itself.
func colorAlone(t *testing.T, x impl.Node, want impl.Color) {
	t.Helper()
	x.Id, x.Parent = 1, 0
	checkColorOf(t, sceneOf(x), 0, 0, 0, want)
	x.Parent = 9
	checkColorOf(t, sceneOf(x, groupNode(9, 0)), 9, 0, 0, want)
	checkColorOf(t, sceneOf(x, groupNode(9, 0)), 0, 0, 0, want)
}

func TestColorOfOneShape(t *testing.T) {
	square := squaresPath(0, 0, 1, 1)
	red := withPaint(filledNode(1, 0, square), fullOf(255, 0, 0))
	colorAlone(t, red, impl.Color{R: 255, A: 255})
	colorAlone(t, withManner(red, impl.Over, 0), impl.Color{})
	colorAlone(t, withManner(red, impl.Over, 1), impl.Color{R: 1, A: 1})
	colorAlone(t, withManner(red, impl.Over, 128), impl.Color{R: 128, A: 128})
	// Over a clear colour all modes but Out lay what comes.
	for _, mode := range []int{impl.Over, impl.Multiply, impl.Screen, impl.Plus} {
		colorAlone(t, withManner(red, mode, 255), impl.Color{R: 255, A: 255})
	}
	colorAlone(t, withManner(red, impl.Out, 255), impl.Color{})
	for bits, part := range map[int]int{1: 64, 3: 128, 7: 191, 15: 255, 8: 64, 9: 128, 14: 191} {
		colorAlone(t, withPaint(filledNode(1, 0, pathOfBits(bits)), fullOf(255, 0, 0)), impl.Color{R: part, A: part})
	}
	// It is thinned first, then faded: the other way round A would be 19.
	glass := withManner(withPaint(filledNode(1, 0, pathOfBits(3)), plainOf(255, 130, 0, 102)), impl.Over, 92)
	colorAlone(t, glass, impl.Color{R: 18, G: 9, A: 18})
	slope := impl.Paint{Kind: impl.Slope, Last: impl.Color{G: 200, A: 255}, From: impl.Point{X: 128}, To: impl.Point{X: 640}}
	s := sceneOf(withPaint(filledNode(1, 0, squaresPath(0, 0, 4, 4)), slope))
	for x, want := range []impl.Color{{}, {G: 50, A: 128}, {G: 200, A: 255}, {G: 200, A: 255}, {}} {
		checkColorOf(t, s, 0, x, 0, want)
	}
	// The paint isn't moved by the node's Mat.
	s.Nodes[0].Mat = impl.Shift(256, 0)
	for x, want := range []impl.Color{{}, {G: 50, A: 128}, {G: 200, A: 255}} {
		checkColorOf(t, s, 0, x, 0, want)
	}
}

func TestColorOfWhatIsNoGroup(t *testing.T) {
	s := sceneOf(groupNode(1, 0), withPaint(filledNode(2, 1, squaresPath(0, 0, 1, 1)), fullOf(9, 8, 7)), groupNode(3, 0))
	nine := impl.Color{R: 9, G: 8, B: 7, A: 255}
	for id, want := range []impl.Color{nine, nine, {}, {}, {}} {
		checkColorOf(t, s, id, 0, 0, want)
		checkColorOf(t, turnedAround(s), id, 0, 0, want)
		checkColorOf(t, s, id, 1, 0, impl.Color{})
	}
	for _, id := range append([]int{55, 99}, strangeIds...) {
		if id != 0 {
			checkColorOf(t, s, id, 0, 0, impl.Color{})
		}
	}
}

func TestColorOfInOrder(t *testing.T) {
	square := squaresPath(0, 0, 1, 1)
	red, green, blue := fullOf(255, 0, 0), fullOf(0, 255, 0), plainOf(0, 0, 255, 128)
	s := sceneOf(withPaint(filledNode(5, 0, square), red), withPaint(filledNode(2, 0, square), green), withPaint(filledNode(9, 0, square), blue))
	checkColorOf(t, s, 0, 0, 0, impl.Color{G: 127, B: 128, A: 255})
	checkColorOf(t, turnedAround(s), 0, 0, 0, impl.Color{R: 255, A: 255})
	checkColorOf(t, sceneOf(s.Nodes[1], s.Nodes[0], s.Nodes[2]), 0, 0, 0, impl.Color{R: 127, B: 128, A: 255})
	checkColorOf(t, sceneOf(s.Nodes[0], s.Nodes[2], s.Nodes[1]), 0, 0, 0, impl.Color{G: 255, A: 255})
	// A Group stands where it stands, wherever its kids do.
	inner := filledNode(2, 7, square)
	for _, c := range []struct {
		s    impl.Scene
		want impl.Color
	}{
		{sceneOf(withPaint(inner, green), s.Nodes[0], groupNode(7, 0)), impl.Color{G: 255, A: 255}},
		{sceneOf(s.Nodes[0], groupNode(7, 0), withPaint(inner, green)), impl.Color{G: 255, A: 255}},
		{sceneOf(groupNode(7, 0), s.Nodes[0], withPaint(inner, green)), impl.Color{R: 255, A: 255}},
		{sceneOf(groupNode(7, 0), withPaint(inner, green), s.Nodes[0]), impl.Color{R: 255, A: 255}},
	} {
		checkColorOf(t, c.s, 0, 0, 0, c.want)
		checkColorOf(t, c.s, 7, 0, 0, impl.Color{G: 255, A: 255})
	}
}

// Over a ground of its own: what comes with each Mode, of each number of points, at some fades.
func TestColorOfEachModeAndBits(t *testing.T) {
	square := squaresPath(0, 0, 1, 1)
	for _, ground := range []impl.Paint{fullOf(200, 100, 50), plainOf(255, 90, 3, 77), plainOf(0, 0, 0, 0)} {
		for _, mode := range allModes {
			for bits := range 16 {
				for _, fade := range []int{0, 1, 100, 254, 255} {
					comes := plainOf(30, 255, 128, 180)
					s := sceneOf(withPaint(filledNode(1, 0, square), ground), withManner(withPaint(filledNode(2, 0, pathOfBits(bits)), comes), mode, fade))
					want := laidByLibrary(ground.First)
					if bits != 0 {
						thin := lessenedByLibrary(laidByLibrary(comes.First), countByHand(bits), 4)
						want = blendByLibrary(mode, lessenedByLibrary(thin, fade, 255), want)
					}
					checkColorOf(t, s, 0, 0, 0, want)
				}
			}
		}
	}
}

// In a Group its own kids are blended first, from a clear colour on.
func TestColorOfGroupsInGroups(t *testing.T) {
	square := squaresPath(0, 0, 1, 1)
	red, green, white := fullOf(255, 0, 0), fullOf(0, 255, 0), plainOf(255, 255, 255, 128)
	// What would be over one another in the scene is one colour ahead of the Group's Fade.
	faded := sceneOf(withManner(groupNode(1, 0), impl.Over, 128), withPaint(filledNode(2, 1, square), red), withPaint(filledNode(3, 1, square), green))
	checkColorOf(t, faded, 1, 0, 0, impl.Color{G: 255, A: 255})
	checkColorOf(t, faded, 0, 0, 0, impl.Color{G: 128, A: 128})
	outer := withManner(groupNode(1, 0), impl.Multiply, 128)
	inner := withManner(groupNode(4, 1), impl.Screen, 100)
	s := sceneOf(
		withPaint(filledNode(6, 0, square), plainOf(0, 0, 255, 200)), outer, withPaint(filledNode(2, 1, square), red),
		inner, withPaint(filledNode(3, 4, square), green), withManner(withPaint(filledNode(5, 4, pathOfBits(7)), white), impl.Plus, 60),
	)
	// White is laid as 128, of 3 points 96, faded 23; green has it added: 255 at most.
	checkColorOf(t, s, 4, 0, 0, impl.Color{R: 23, G: 255, B: 23, A: 255})
	// Faded by 100: 9, 100, 9, 100, which screens red.
	checkColorOf(t, s, 1, 0, 0, impl.Color{R: 255, G: 100, B: 9, A: 255})
	// Faded by 128: 128, 50, 5, 128; the blue ground is laid as 200 of 200.
	checkColorOf(t, s, 0, 0, 0, impl.Color{R: 28, G: 11, B: 105, A: 228})
}

// Out in a Group takes away there, not from what lies below the Group.
func TestColorOfOutInAGroup(t *testing.T) {
	square := squaresPath(0, 0, 1, 1)
	red, green := fullOf(255, 0, 0), fullOf(0, 255, 0)
	hole := withManner(withPaint(filledNode(3, 1, pathOfBits(3)), green), impl.Out, 255)
	s := sceneOf(withPaint(filledNode(4, 0, square), green), groupNode(1, 0), withPaint(filledNode(2, 1, square), red), hole)
	checkColorOf(t, s, 1, 0, 0, impl.Color{R: 127, A: 127})
	checkColorOf(t, s, 0, 0, 0, impl.Color{R: 127, G: 128, A: 255})
	alone := sceneOf(withPaint(filledNode(4, 0, square), green), groupNode(1, 0), hole)
	checkColorOf(t, alone, 0, 0, 0, impl.Color{G: 255, A: 255})
	// As a Mode of the Group it takes away where its kids are.
	outGroup := sceneOf(withPaint(filledNode(4, 0, square), green), withManner(groupNode(1, 0), impl.Out, 255), withPaint(filledNode(2, 1, pathOfBits(1)), red))
	checkColorOf(t, outGroup, 0, 0, 0, impl.Color{G: 191, A: 191})
}

// Groups without kids, with kids that have nothing here, and shapes without a point change nothing, whatever their Mode.
func TestColorOfWhatHasNothing(t *testing.T) {
	square := squaresPath(0, 0, 1, 1)
	ground := withPaint(filledNode(1, 0, square), plainOf(255, 128, 3, 200))
	want := laidByLibrary(ground.Paint.First)
	for _, mode := range allModes {
		for _, fade := range []int{0, 1, 255} {
			empty := withManner(groupNode(2, 0), mode, fade)
			away := withManner(filledNode(3, 2, squaresPath(1, 0, 1, 1)), mode, fade)
			clear := withManner(withPaint(filledNode(3, 2, square), plainOf(9, 9, 9, 0)), mode, fade)
			for _, s := range []impl.Scene{
				sceneOf(ground, empty), sceneOf(ground, empty, away), sceneOf(ground, empty, clear), sceneOf(empty, ground, away), sceneOf(ground, empty, withManner(groupNode(4, 2), mode, fade)),
				sceneOf(ground, withManner(filledNode(3, 0, squaresPath(0, 1, 1, 1)), mode, fade)), sceneOf(ground, withManner(filledNode(3, 0, impl.Path{}), mode, fade)),
				sceneOf(ground, withClip(withManner(filledNode(3, 0, square), mode, fade), squaresPath(0, 1, 1, 1))),
			} {
				checkColorOf(t, s, 0, 0, 0, want)
				checkColorOf(t, s, 2, 0, 0, impl.Color{})
			}
			checkColorOf(t, sceneOf(empty), 0, 0, 0, impl.Color{})
			checkColorOf(t, sceneOf(empty), 2, 0, 0, impl.Color{})
		}
	}
}

// A Group has no Clip of its own on what it lays: its Clip is on each of its kids.
func TestColorOfClips(t *testing.T) {
	square := squaresPath(0, 0, 2, 1)
	red, green := fullOf(255, 0, 0), fullOf(0, 255, 0)
	s := sceneOf(
		withClip(groupNode(1, 0), pathOfBits(5)), withPaint(filledNode(2, 1, square), red), withClip(withPaint(filledNode(3, 1, square), green), pathOfBits(3)),
		withPaint(filledNode(4, 0, squaresPath(1, 0, 1, 1)), green),
	)
	// Red has two of four points, green one, and they count as if they were anywhere.
	checkColorOf(t, s, 1, 0, 0, impl.Color{R: 96, G: 64, A: 160})
	checkColorOf(t, s, 0, 0, 0, impl.Color{R: 96, G: 64, A: 160})
	checkColorOf(t, s, 1, 1, 0, impl.Color{})
	checkColorOf(t, s, 0, 1, 0, impl.Color{G: 255, A: 255})
}

func TestColorOfIsLaid(t *testing.T) {
	for _, s := range picturedScenes() {
		for _, p := range []impl.Point{{}, {X: 1, Y: 1}, {X: 2, Y: 1}, {X: 3, Y: 3}} {
			checkIsLaid(t, "ColorOf", impl.ColorOf(s, 0, p.X, p.Y))
		}
	}
}

func TestHitOfThePointThatCounts8(t *testing.T) {
	for bits := range 16 {
		for clip := 1; clip < 16; clip++ {
			want := 0
			if bits >= 8 && clip >= 8 {
				want = 42
			}
			checkHitOf(t, sceneOf(withClip(filledNode(42, 0, pathOfBits(bits)), pathOfBits(clip))), 0, 0, want)
			checkHitOf(t, sceneOf(withClip(groupNode(1, 0), pathOfBits(clip)), filledNode(42, 1, pathOfBits(bits))), 0, 0, want)
		}
		// What lies over it with all other points is not hit.
		below := filledNode(7, 0, squaresPath(0, 0, 1, 1))
		if bits < 8 {
			checkHitOf(t, sceneOf(below, filledNode(42, 0, pathOfBits(bits))), 0, 0, 7)
		} else {
			checkHitOf(t, sceneOf(below, filledNode(42, 0, pathOfBits(bits))), 0, 0, 42)
		}
	}
}

func TestHitOfTheLastOnePainted(t *testing.T) {
	all := squaresPath(0, 0, 1, 1)
	s := sceneOf(filledNode(9, 0, all), filledNode(2, 0, all), filledNode(5, 0, all))
	checkHitOf(t, s, 0, 0, 5)
	checkHitOf(t, turnedAround(s), 0, 0, 9)
	checkHitOf(t, s, 1, 0, 0)
	checkHitOf(t, s, 0, -1, 0)
	// All below a Group is painted with it, wherever it stands.
	for _, c := range []struct {
		s    impl.Scene
		want int
	}{
		{sceneOf(groupNode(1, 0), groupNode(2, 0), filledNode(3, 2, all), filledNode(4, 1, all)), 3},
		{sceneOf(groupNode(2, 0), groupNode(1, 0), filledNode(3, 2, all), filledNode(4, 1, all)), 4},
		{sceneOf(filledNode(3, 2, all), filledNode(4, 0, all), groupNode(2, 0)), 3},
		{sceneOf(groupNode(2, 0), filledNode(4, 0, all), filledNode(3, 2, all)), 4},
		{sceneOf(groupNode(2, 0), filledNode(4, 2, all), groupNode(6, 2), filledNode(3, 6, all), groupNode(8, 0)), 3},
		{sceneOf(groupNode(2, 0), groupNode(6, 2), filledNode(4, 2, all), filledNode(3, 6, all), groupNode(8, 0)), 4},
		{sceneOf(filledNode(4, 0, all), groupNode(1, 0), groupNode(2, 1), groupNode(3, 2), filledNode(5, 3, all), filledNode(6, 0, squaresPath(1, 0, 1, 1))), 5},
		{sceneOf(filledNode(4, 0, all), groupNode(1, 0), groupNode(2, 1), groupNode(3, 2), filledNode(5, 3, squaresPath(1, 0, 1, 1))), 4},
		{sceneOf(filledNode(4, 1, all), withClip(groupNode(1, 0), squaresPath(1, 0, 1, 1)), filledNode(5, 0, all)), 5},
		{sceneOf(filledNode(5, 0, all), filledNode(4, 1, all), withClip(groupNode(1, 0), squaresPath(1, 0, 1, 1))), 5},
	} {
		checkHitOf(t, c.s, 0, 0, c.want)
	}
}

// Who is clear is hit all the same.
func TestHitOfWhatIsClear(t *testing.T) {
	all := squaresPath(0, 0, 1, 1)
	below := withPaint(filledNode(1, 0, all), fullOf(1, 2, 3))
	clear := withPaint(filledNode(2, 0, all), plainOf(0, 0, 0, 0))
	nothing := withPaint(filledNode(2, 0, all), impl.Paint{Kind: impl.Slope, To: impl.Point{X: 1}})
	for _, x := range []impl.Node{clear, nothing, withManner(below, impl.Over, 0), withManner(below, impl.Out, 255), withManner(clear, impl.Out, 0)} {
		x.Id = 2
		checkHitOf(t, sceneOf(below, x), 0, 0, 2)
		checkHitOf(t, sceneOf(x), 0, 0, 2)
		x.Parent = 3
		checkHitOf(t, sceneOf(below, x, withManner(groupNode(3, 0), impl.Over, 0)), 0, 0, 2)
		checkHitOf(t, sceneOf(withManner(groupNode(3, 0), impl.Out, 0), x, below), 0, 0, 1)
	}
}

func TestHitOfEvenShapesAndStrokes(t *testing.T) {
	twice := bothPaths(squaresPath(0, 0, 2, 1), squaresPath(1, 0, 2, 1))
	s := sceneOf(filledNode(1, 0, squaresPath(0, 0, 4, 1)), evenly(filledNode(2, 0, twice)))
	for x, want := range []int{2, 1, 2, 1, 0} {
		checkHitOf(t, s, x, 0, want)
	}
	s.Nodes[1].Even = false
	for x, want := range []int{2, 2, 2, 1, 0} {
		checkHitOf(t, s, x, 0, want)
	}
	dashed := sceneOf(strokedNode(3, 0, pathOf(t, "M 0 192 L 1280 192"), 20, 512, 256))
	for x, want := range []int{3, 3, 0, 3, 3, 0} {
		checkHitOf(t, dashed, x, 0, want)
	}
}

// The squares that many scenes are asked at.
func squaresOfPicture(seed int) []impl.Point {
	squares := []impl.Point{{X: -1, Y: mixed(seed, 1, 5)}}
	for i := range 6 {
		squares = append(squares, impl.Point{X: mixed(seed, 10+i, 5), Y: mixed(seed, 20+i, 5)})
	}
	return squares
}

func TestSquaresOfManyScenes(t *testing.T) {
	colors, hits := map[impl.Color]bool{}, map[bool]int{}
	for i, s := range picturedScenes() {
		d, roomy := drawingOf(s), roomyScene(s)
		for _, p := range squaresOfPicture(i) {
			for _, x := range s.Nodes {
				if got, want := impl.ClipBits(roomy, x.Id, p.X, p.Y), d.clipBits(x.Id, p.X, p.Y); got != want {
					t.Errorf("ClipBits(%v, %d, %d, %d) = %d, want %d", s, x.Id, p.X, p.Y, got, want)
				}
				if got, want := impl.OwnBits(roomy, x.Id, p.X, p.Y), d.ownBits(x.Id, p.X, p.Y); got != want {
					t.Errorf("OwnBits(%v, %d, %d, %d) = %d, want %d", s, x.Id, p.X, p.Y, got, want)
				}
				if got, want := impl.ColorOf(roomy, x.Id, p.X, p.Y), d.colorOf(x.Id, p.X, p.Y); got != want {
					t.Errorf("ColorOf(%v, %d, %d, %d) = %v, want %v", s, x.Id, p.X, p.Y, got, want)
				}
			}
			got, want := impl.ColorOf(roomy, 0, p.X, p.Y), d.colorOf(0, p.X, p.Y)
			if got != want {
				t.Errorf("ColorOf(%v, 0, %d, %d) = %v, want %v", s, p.X, p.Y, got, want)
			}
			hit := d.hitOf(p.X, p.Y)
			if got := impl.HitOf(roomy, p.X, p.Y); got != hit {
				t.Errorf("HitOf(%v, %d, %d) = %d, want %d", s, p.X, p.Y, got, hit)
			}
			colors[got] = true
			hits[hit > 0]++
		}
		checkLeft(t, "one of those of a square", roomy, s)
	}
	if len(colors) < 250 || hits[true] < 500 || hits[false] < 500 {
		t.Errorf("of these squares %d have unlike colours, %d are hit, and %d are not", len(colors), hits[true], hits[false])
	}
}

// The squares just outside of a box, and some far from it.
func squaresBeyond(b impl.Box) []impl.Point {
	squares := []impl.Point{{X: b.X0 - 90, Y: b.Y0}, {X: b.X1, Y: b.Y1 + 500}, {X: 2000, Y: 2000}, {X: -2000, Y: 2000}}
	for x := max(b.X0, -8) - 1; x <= min(b.X1, 8); x++ {
		squares = append(squares, impl.Point{X: x, Y: b.Y0 - 1}, impl.Point{X: x, Y: b.Y1})
	}
	for y := max(b.Y0, -8); y < min(b.Y1, 8); y++ {
		squares = append(squares, impl.Point{X: b.X0 - 1, Y: y}, impl.Point{X: b.X1, Y: y})
	}
	return slices.DeleteFunc(squares, func(p impl.Point) bool { return hasPoint(b, p) })
}

func TestPromise18SquaresOutsideOfBoundsAreNotItsOwn(t *testing.T) {
	asked := 0
	for i, s := range slices.Concat(picturedScenes(), variedScenes()) {
		// Those that differ in their order alone have the same bounds.
		if i%3 > 0 {
			continue
		}
		for _, x := range s.Nodes {
			for _, p := range squaresBeyond(impl.BoundsOf(s, x.Id)) {
				for _, below := range idsBelow(s, x.Id) {
					asked++
					if bits := impl.OwnBits(s, below, p.X, p.Y); bits != 0 {
						t.Errorf("OwnBits(%v, %d, %d, %d) = %d, out of the bounds of %d", s, below, p.X, p.Y, bits, x.Id)
					}
				}
				if c := impl.ColorOf(s, x.Id, p.X, p.Y); c != (impl.Color{}) {
					t.Errorf("ColorOf(%v, %d, %d, %d) = %v, out of its bounds", s, x.Id, p.X, p.Y, c)
				}
			}
		}
		bounds := impl.Box{}
		for _, kid := range kidsByHand(s, 0) {
			bounds = impl.JoinBox(bounds, impl.BoundsOf(s, kid))
		}
		for _, p := range squaresBeyond(bounds) {
			if c, hit := impl.ColorOf(s, 0, p.X, p.Y), impl.HitOf(s, p.X, p.Y); c != (impl.Color{}) || hit != 0 {
				t.Errorf("at %v, out of the bounds of %v, the colour is %v, and %d is hit", p, s, c, hit)
			}
		}
	}
	if asked < 10000 {
		t.Errorf("only %d squares were asked for", asked)
	}
}

func TestPromise18WhoIsHitHasThePoint(t *testing.T) {
	hits, covered := 0, 0
	for i, s := range picturedScenes() {
		order := paintedOrder(s)
		for _, p := range squaresOfPicture(i) {
			hit := impl.HitOf(s, p.X, p.Y)
			at := slices.Index(order, hit)
			if hit != 0 && impl.OwnBits(s, hit, p.X, p.Y)&8 == 0 {
				t.Errorf("HitOf(%v, %d, %d) = %d, which has not the point", s, p.X, p.Y, hit)
			}
			// None that is painted later has it; without a hit, none at all.
			for _, id := range order[at+1:] {
				if impl.OwnBits(s, id, p.X, p.Y)&8 != 0 {
					t.Errorf("HitOf(%v, %d, %d) = %d, while %d lies over it", s, p.X, p.Y, hit, id)
				}
			}
			if hit != 0 {
				hits++
				covered += at
			}
		}
	}
	if hits < 500 || covered < hits {
		t.Errorf("%d squares were hit, over %d nodes in all", hits, covered)
	}
}

// The lists of all nodes are one and the same memory; a square changes nothing of them.
func TestSquaresOfNodesThatShareTheirLists(t *testing.T) {
	shared := roomyNode(filledNode(1, 0, squaresPath(0, 0, 2, 2)))
	shared.Clip = shared.Path
	s := impl.Scene{}
	for id := 1; id <= 4; id++ {
		shared.Id, shared.Width = id, id/3*100
		s.Nodes = append(s.Nodes, shared)
	}
	before, d := roomyScene(s), drawingOf(s)
	for id := 1; id <= 4; id++ {
		for _, p := range []impl.Point{{}, {X: 1}, {X: 2, Y: 2}} {
			if got, want := impl.OwnBits(s, id, p.X, p.Y), d.ownBits(id, p.X, p.Y); got != want {
				t.Errorf("OwnBits(%v, %d, %d, %d) = %d, want %d", s, id, p.X, p.Y, got, want)
			}
			if got, want := impl.ColorOf(s, 0, p.X, p.Y), d.colorOf(0, p.X, p.Y); got != want {
				t.Errorf("ColorOf(%v, 0, %d, %d) = %v, want %v", s, p.X, p.Y, got, want)
			}
			if got, want := impl.HitOf(s, p.X, p.Y), d.hitOf(p.X, p.Y); got != want {
				t.Errorf("HitOf(%v, %d, %d) = %d, want %d", s, p.X, p.Y, got, want)
			}
		}
		if !sameScene(s, before) {
			t.Fatalf("what is asked of %d changed what was handed in: %v", id, s)
		}
	}
}
