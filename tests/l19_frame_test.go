package tests

import (
	"math"
	"slices"
	"testing"

	"loop.example/g00190/impl"
)

type frameOf func(s impl.Scene, w int, h int) (impl.Surface, bool)

// Each letter a full colour; a dot is a clear one.
var fullColors = map[rune]impl.Color{
	'.': {}, 'r': {R: 255, A: 255}, 'g': {G: 255, A: 255}, 'b': {B: 255, A: 255}, 'w': {R: 255, G: 255, B: 255, A: 255}, 'y': {R: 255, G: 255, A: 255}, 'k': {A: 255},
}

var (
	redPaint   = fullOf(255, 0, 0)
	greenPaint = fullOf(0, 255, 0)
	bluePaint  = fullOf(0, 0, 255)
	blackPaint = fullOf(0, 0, 0)
)

var oneSquare = squaresPath(0, 0, 1, 1)

func surfaceFrom(rows ...string) impl.Surface {
	s := impl.Surface{W: len(rows[0]), H: len(rows)}
	for _, row := range rows {
		for _, letter := range row {
			s.Pix = append(s.Pix, fullColors[letter])
		}
	}
	return s
}

// One row of these colours.
func rowFrom(colors ...impl.Color) impl.Surface {
	return impl.Surface{W: len(colors), H: 1, Pix: colors}
}

func reds(parts ...int) impl.Surface {
	colors := []impl.Color{}
	for _, part := range parts {
		colors = append(colors, impl.Color{R: part, A: part})
	}
	return rowFrom(colors...)
}

func surfaceByRule(w int, h int, rule func(x int, y int) impl.Color) impl.Surface {
	s := impl.Surface{W: w, H: h}
	for y := range h {
		for x := range w {
			s.Pix = append(s.Pix, rule(x, y))
		}
	}
	return s
}

func (d drawing) frame(w int, h int) impl.Surface {
	return surfaceByRule(w, h, func(x int, y int) impl.Color { return d.colorOf(0, x, y) })
}

func checkFrame(t *testing.T, name string, ask frameOf, s impl.Scene, w int, h int, want impl.Surface, wantOk bool) {
	t.Helper()
	roomy := roomyScene(s)
	got, ok := ask(roomy, w, h)
	if !isSurface(got, want) || ok != wantOk {
		t.Errorf("%s(%v, %d, %d) = %v, %v, want %v, %v", name, s, w, h, got, ok, want, wantOk)
	}
	checkLeft(t, name, roomy, s)
	overwrite(got.Pix, spareColor)
	if again, _ := ask(roomy, w, h); !isSurface(again, want) {
		t.Errorf("%s(%v, %d, %d) came as %v once its answer was written over, want %v", name, s, w, h, again, want)
	}
}

// Both, as they must be the same.
func checkFrames(t *testing.T, s impl.Scene, want impl.Surface) {
	t.Helper()
	checkFrame(t, "FullFrame", impl.FullFrame, s, want.W, want.H, want, true)
	checkFrame(t, "DenFrame", impl.DenFrame, s, want.W, want.H, want, true)
}

func checkNoFrames(t *testing.T, s impl.Scene, w int, h int) {
	t.Helper()
	checkFrame(t, "FullFrame", impl.FullFrame, s, w, h, impl.Surface{}, false)
	checkFrame(t, "DenFrame", impl.DenFrame, s, w, h, impl.Surface{}, false)
}

// The scene as it stands, and in a Group that changes nothing of it.
func checkFramesInAGroup(t *testing.T, s impl.Scene, want impl.Surface) {
	t.Helper()
	checkFrames(t, s, want)
	inside := sceneOf(groupNode(90, 0))
	for _, x := range s.Nodes {
		if x.Parent == 0 {
			x.Parent = 90
		}
		inside = plusNode(inside, x)
	}
	checkFrames(t, inside, want)
}

func TestFramesOfWrongScenes(t *testing.T) {
	for _, s := range wrongScenes() {
		for _, size := range [][2]int{{1, 1}, {3, 2}, {12, 12}, {0, 1}, {13, -1}} {
			checkNoFrames(t, s, size[0], size[1])
		}
	}
	// One wrong node spoils all of them, be it to be seen or not.
	s := sceneOf(groupNode(1, 0), withPaint(filledNode(2, 1, oneSquare), redPaint), filledNode(3, 0, squaresPath(50, 0, 1, 1)), groupNode(4, 0))
	checkFrames(t, s, surfaceFrom("r.", ".."))
	for place := range s.Nodes {
		bad := s.Nodes[place]
		bad.Fade = 256
		checkNoFrames(t, withNode(s, place, bad), 2, 2)
	}
}

func TestFramesOfWrongSides(t *testing.T) {
	shape := sceneOf(filledNode(1, 0, squaresPath(0, 0, 12, 12)))
	for _, s := range []impl.Scene{{}, {Nodes: []impl.Node{}}, groupsOf(1, 0), shape} {
		for _, wrong := range wrongSides {
			for _, other := range sideEdges {
				checkNoFrames(t, s, wrong, other)
				checkNoFrames(t, s, other, wrong)
			}
		}
	}
	for _, other := range []int{1, 5, 12} {
		for _, wrong := range []int{0, -1, 13} {
			checkNoFrames(t, sevenNodes(), wrong, other)
			checkNoFrames(t, sevenNodes(), other, wrong)
		}
	}
}

func TestFramesWithoutNodes(t *testing.T) {
	for w := 1; w <= 12; w++ {
		for h := 1; h <= 12; h++ {
			blank := evenSurface(w, h, impl.Color{})
			checkFrames(t, impl.Scene{}, blank)
			checkFrames(t, impl.Scene{Nodes: []impl.Node{}}, blank)
		}
	}
	for _, s := range []impl.Scene{groupsOf(1, 0), groupsOf(1, 0, 2, 1, 3, 2, 4, 3), groupsOf(9, 8, 8, 0, 7, 8, 6, 0)} {
		checkFrames(t, s, evenSurface(1, 1, impl.Color{}))
		checkFrames(t, s, evenSurface(5, 3, impl.Color{}))
	}
}

// A slope aslant: each square has another colour than those beside it.
func TestFramesOfEachSize(t *testing.T) {
	slope := impl.Paint{Kind: impl.Slope, First: impl.Color{R: 255, A: 255}, Last: impl.Color{G: 255, B: 90, A: 100}, From: middle(-3, 0), To: middle(13, 9)}
	s := sceneOf(withPaint(filledNode(1, 0, squaresPath(-5, -5, 40, 40)), slope))
	for w := 1; w <= 12; w++ {
		for h := 1; h <= 12; h++ {
			checkFramesInAGroup(t, s, surfaceByRule(w, h, func(x int, y int) impl.Color { return colorByLibrary(slope, x, y) }))
		}
	}
}

// Alone in each square of the picture, and in each of those around it.
func TestFramesOfEachSquare(t *testing.T) {
	for _, size := range [][2]int{{1, 1}, {4, 3}, {3, 4}, {12, 1}, {1, 12}, {12, 12}} {
		w, h := size[0], size[1]
		for y := -1; y <= h; y++ {
			for x := -1; x <= w; x++ {
				want := evenSurface(w, h, impl.Color{})
				if x >= 0 && x < w && y >= 0 && y < h {
					want = withPix(want, y*w+x, fullRed)
				}
				checkFrames(t, sceneOf(withPaint(filledNode(1, 0, squaresPath(x, y, 1, 1)), redPaint)), want)
				checkFrames(t, sceneOf(withPaint(withMat(filledNode(1, 0, oneSquare), impl.Shift(256*x, 256*y)), redPaint)), want)
			}
		}
	}
}

// Boxes that reach beyond the picture on one side or more, lie beside it wholly, or around all of it.
func TestFramesOfShapesBeyond(t *testing.T) {
	for y := -4; y <= 4; y++ {
		for x := -4; x <= 5; x++ {
			for _, size := range [][2]int{{2, 2}, {3, 1}, {1, 5}, {9, 9}, {1500, 3}, {2, 1500}} {
				b := boxAt(x, y, size[0], size[1])
				want := surfaceByRule(4, 3, func(x int, y int) impl.Color {
					if hasPoint(b, impl.Point{X: x, Y: y}) {
						return fullRed
					}
					return impl.Color{}
				})
				shape := withPaint(filledNode(1, 0, squaresPath(x, y, size[0], size[1])), redPaint)
				checkFrames(t, sceneOf(shape), want)
				checkFrames(t, sceneOf(withClip(withPaint(filledNode(1, 0, squaresPath(-9, -9, 30, 30)), redPaint), shape.Path)), want)
			}
		}
	}
	all := impl.RectPath(impl.Box{X0: -impl.Far, Y0: -impl.Far, X1: impl.Far, Y1: impl.Far})
	checkFrames(t, sceneOf(withPaint(withClip(filledNode(1, 0, all), all), redPaint)), evenSurface(12, 12, fullRed))
	for _, away := range []impl.Mat{impl.Shift(impl.Far, 0), impl.Shift(0, -impl.Far), impl.Shift(-impl.Far, impl.Far), impl.Shift(3072, 0), impl.Shift(0, 3072), impl.Shift(-3072, 0), impl.Shift(0, -3072)} {
		checkFrames(t, sceneOf(withPaint(withMat(filledNode(1, 0, squaresPath(0, 0, 12, 12)), away), redPaint)), evenSurface(12, 12, impl.Color{}))
	}
}

// Thinned by its points, then faded.
func TestFramesOfSomePoints(t *testing.T) {
	for bits := range 16 {
		part := []int{0, 64, 128, 191, 255}[countByHand(bits)]
		checkFramesInAGroup(t, sceneOf(withPaint(filledNode(1, 0, pathOfBits(bits)), redPaint)), reds(part, 0))
		for clip := 1; clip < 16; clip++ {
			part := []int{0, 64, 128, 191, 255}[countByHand(bits&clip)]
			x := withPaint(filledNode(2, 1, pathOfBits(bits)), redPaint)
			checkFrames(t, sceneOf(groupNode(1, 0), withClip(x, pathOfBits(clip))), reds(part, 0))
			checkFrames(t, sceneOf(withClip(groupNode(1, 0), pathOfBits(clip)), x), reds(part, 0))
			checkFrames(t, sceneOf(withClip(groupNode(1, 0), pathOfBits(clip)), withClip(x, pathOfBits(clip|6))), reds(part, 0))
		}
	}
	glass := withManner(withPaint(filledNode(1, 0, pathOfBits(3)), plainOf(255, 130, 0, 102)), impl.Over, 92)
	checkFramesInAGroup(t, sceneOf(glass), rowFrom(impl.Color{R: 18, G: 9, A: 18}, impl.Color{}))
	// The edges of squares are cut by their points: a left or upper edge takes the points on it.
	half := withPaint(filledNode(1, 0, impl.RectPath(impl.Box{X0: 64, Y0: 64, X1: 448, Y1: 192})), redPaint)
	checkFrames(t, sceneOf(half), reds(128, 64, 0))
	half.Path = impl.RectPath(impl.Box{X0: 65, Y0: 64, X1: 449, Y1: 193})
	checkFrames(t, sceneOf(half), reds(128, 255, 0))
}

func TestFramesOfFades(t *testing.T) {
	for _, c := range []struct{ fade, part int }{{0, 0}, {1, 1}, {128, 128}, {254, 254}, {255, 255}} {
		red := withPaint(filledNode(2, 0, oneSquare), redPaint)
		checkFramesInAGroup(t, sceneOf(withManner(red, impl.Over, c.fade)), reds(c.part, 0))
		red.Parent = 1
		checkFramesInAGroup(t, sceneOf(withManner(groupNode(1, 0), impl.Over, c.fade), red), reds(c.part, 0))
		// A hole as full as its Fade.
		ground := withPaint(filledNode(3, 0, squaresPath(0, 0, 2, 1)), redPaint)
		checkFramesInAGroup(t, sceneOf(ground, withManner(groupNode(1, 0), impl.Out, c.fade), red), reds(255-c.part, 255))
		red.Parent = 0
		checkFramesInAGroup(t, sceneOf(ground, withManner(red, impl.Out, c.fade)), reds(255-c.part, 255))
	}
}

// Over a ground of its own, with each Mode, alone and as a Group's.
func TestFramesOfEachMode(t *testing.T) {
	for _, first := range []impl.Paint{fullOf(200, 100, 50), plainOf(255, 90, 3, 77), plainOf(0, 0, 0, 0)} {
		ground := withPaint(filledNode(1, 0, squaresPath(0, 0, 3, 1)), first)
		comes := withPaint(filledNode(2, 0, bothPaths(pathOfBits(7), squaresPath(1, 0, 1, 1))), plainOf(30, 255, 128, 180))
		there := laidByLibrary(first.First)
		for _, mode := range allModes {
			for _, fade := range []int{0, 1, 100, 255} {
				full := laidByLibrary(comes.Paint.First)
				thin := lessenedByLibrary(full, 3, 4)
				want := rowFrom(blendByLibrary(mode, lessenedByLibrary(thin, fade, 255), there), blendByLibrary(mode, lessenedByLibrary(full, fade, 255), there), there)
				checkFramesInAGroup(t, sceneOf(ground, withManner(comes, mode, fade)), want)
				inner := comes
				inner.Parent = 3
				checkFramesInAGroup(t, sceneOf(ground, withManner(groupNode(3, 0), mode, fade), inner), want)
			}
		}
	}
}

func TestFramesInOrder(t *testing.T) {
	red := withPaint(filledNode(5, 0, squaresPath(0, 0, 2, 1)), redPaint)
	green := withPaint(filledNode(2, 0, squaresPath(1, 0, 2, 1)), greenPaint)
	blue := withPaint(filledNode(9, 0, squaresPath(1, 0, 1, 2)), bluePaint)
	checkFrames(t, sceneOf(red, green, blue), surfaceFrom("rbg", ".b."))
	checkFrames(t, sceneOf(blue, green, red), surfaceFrom("rrg", ".b."))
	checkFrames(t, sceneOf(red, blue, green), surfaceFrom("rgg", ".b."))
	// A Group stands where it stands, wherever its kids do.
	green.Parent = 7
	checkFrames(t, sceneOf(green, red, groupNode(7, 0)), surfaceFrom("rgg"))
	checkFrames(t, sceneOf(red, groupNode(7, 0), green), surfaceFrom("rgg"))
	checkFrames(t, sceneOf(groupNode(7, 0), red, green), surfaceFrom("rrg"))
	checkFrames(t, sceneOf(groupNode(7, 0), green, red), surfaceFrom("rrg"))
	checkFrames(t, sceneOf(green, red, groupNode(7, 4), groupNode(4, 0)), surfaceFrom("rgg"))
	checkFrames(t, sceneOf(groupNode(4, 0), green, red, groupNode(7, 4)), surfaceFrom("rrg"))
}

// A Group is laid on a surface of its own first: what is in it does not touch what lies below it.
func TestFramesOfGroupsOnTheirOwn(t *testing.T) {
	ground := withPaint(filledNode(4, 0, squaresPath(0, 0, 3, 1)), greenPaint)
	red := withPaint(filledNode(2, 1, squaresPath(0, 0, 2, 1)), redPaint)
	hole := withManner(withPaint(filledNode(3, 1, squaresPath(1, 0, 2, 1)), bluePaint), impl.Out, 255)
	checkFrames(t, sceneOf(ground, groupNode(1, 0), red, hole), surfaceFrom("rgg"))
	checkFrames(t, sceneOf(ground, groupNode(1, 0), hole), surfaceFrom("ggg"))
	checkFrames(t, sceneOf(ground, groupNode(1, 0), red, hole, groupNode(5, 1)), surfaceFrom("rgg"))
	checkFrames(t, sceneOf(ground, withManner(groupNode(1, 0), impl.Out, 255), red, hole), surfaceFrom(".gg"))
	checkFrames(t, sceneOf(groupNode(1, 0), red, hole, ground), surfaceFrom("ggg"))
	deeper := sceneOf(ground, groupNode(1, 0), red, groupNode(6, 1), withManner(withPaint(filledNode(3, 6, squaresPath(1, 0, 2, 1)), bluePaint), impl.Out, 255))
	checkFrames(t, deeper, surfaceFrom("rrg"))
	// Two that lie over one another are one colour ahead of the Group's Fade.
	faded := sceneOf(withManner(groupNode(1, 0), impl.Over, 128), withPaint(filledNode(2, 1, squaresPath(0, 0, 2, 1)), redPaint), withPaint(filledNode(3, 1, squaresPath(1, 0, 2, 1)), greenPaint))
	checkFrames(t, faded, rowFrom(impl.Color{R: 128, A: 128}, impl.Color{G: 128, A: 128}, impl.Color{G: 128, A: 128}))
	multiplied := sceneOf(withPaint(filledNode(4, 0, squaresPath(0, 0, 3, 1)), fullOf(255, 255, 0)), withManner(groupNode(1, 0), impl.Multiply, 255), red)
	checkFrames(t, multiplied, surfaceFrom("rry"))
	doubled := sceneOf(ground, withManner(groupNode(1, 0), impl.Plus, 255), red, withManner(red, impl.Plus, 255))
	doubled.Nodes[3].Id = 7
	checkFrames(t, doubled, surfaceFrom("yyg"))
}

// Each with a Mode and a Fade of its own; and each of its squares by itself.
func TestFramesOfGroupsInGroups(t *testing.T) {
	two, white := squaresPath(0, 0, 2, 1), plainOf(255, 255, 255, 128)
	outer := withManner(groupNode(1, 0), impl.Multiply, 128)
	inner := withManner(groupNode(4, 1), impl.Screen, 100)
	s := sceneOf(
		withPaint(filledNode(6, 0, squaresPath(0, 0, 4, 1)), plainOf(0, 0, 255, 200)), outer, withPaint(filledNode(2, 1, squaresPath(0, 0, 3, 1)), redPaint),
		inner, withPaint(filledNode(3, 4, two), greenPaint), withManner(withPaint(filledNode(5, 4, pathOfBits(7)), white), impl.Plus, 60),
	)
	// First: white is laid as 128, of 3 points 96, faded 23; green has it added. By 100: 9, 100, 9, 100, which screens red: 255, 100, 9. By 128: 128, 50, 5, 128.
	// Second: without white: 0, 100, 0, 100, red screened: 255, 100, 0. By 128: 128, 50, 0, 128. Third: red alone, by 128.
	want := rowFrom(impl.Color{R: 28, G: 11, B: 105, A: 228}, impl.Color{R: 28, G: 11, B: 100, A: 228}, impl.Color{R: 28, B: 100, A: 228}, impl.Color{B: 200, A: 200})
	checkFrames(t, s, want)
	// A third one in between that changes nothing; then one that halves what is laid.
	deep := sceneOf(s.Nodes[0], s.Nodes[1], s.Nodes[2], groupNode(7, 1), s.Nodes[3], s.Nodes[4], s.Nodes[5])
	deep.Nodes[4].Parent = 7
	deep.Nodes[4].Mode = impl.Over
	deep.Nodes[3].Mode = impl.Screen
	checkFrames(t, deep, want)
	thrice := sceneOf(withManner(groupNode(1, 0), impl.Over, 128), withManner(groupNode(2, 1), impl.Plus, 128), withManner(groupNode(3, 2), impl.Screen, 128), withManner(withPaint(filledNode(4, 3, two), redPaint), impl.Over, 128))
	// 128, 64, 32, 16.
	checkFrames(t, thrice, reds(16, 16, 0))
	checkFrames(t, turnedAround(thrice), reds(16, 16, 0))
	for place := range thrice.Nodes {
		clear := thrice.Nodes[place]
		clear.Fade = 0
		checkFrames(t, withNode(thrice, place, clear), reds(0, 0, 0))
		full := thrice.Nodes[place]
		full.Fade = 255
		checkFrames(t, withNode(thrice, place, full), reds(32, 32, 0))
		out := thrice.Nodes[place]
		out.Mode = impl.Out
		checkFrames(t, withNode(thrice, place, out), reds(0, 0, 0))
	}
}

// All Modes and some Fades, Group by Group.
func TestFramesOfModesInModes(t *testing.T) {
	ground := withPaint(filledNode(1, 0, squaresPath(0, 0, 4, 1)), plainOf(200, 100, 50, 240))
	for _, first := range allModes {
		for _, second := range allModes {
			for _, third := range allModes {
				n := first*25 + second*5 + third
				s := sceneOf(
					ground, withManner(groupNode(2, 0), first, 255-mixed(n, 1, 3)*60), withPaint(filledNode(3, 2, squaresPath(1, 0, 3, 1)), plainOf(20, 255, 90, 180)),
					withManner(groupNode(4, 2), second, 255-mixed(n, 2, 3)*60), withPaint(filledNode(5, 4, impl.RectPath(impl.Box{X0: 128, X1: 640, Y1: 256})), plainOf(255, 30, 200, 130)),
					withManner(groupNode(6, 4), third, 255-mixed(n, 3, 3)*60), withManner(withPaint(filledNode(7, 6, impl.RectPath(impl.Box{X0: 384, X1: 1024, Y1: 128})), slopeFrom(300, 0, 900, 50)), third, 200),
				)
				want := drawingOf(s).frame(5, 2)
				checkFrames(t, s, want)
				checkFrames(t, withNode(s, 3, withClip(s.Nodes[3], squaresPath(-1, -1, 4, 4))), drawingOf(withNode(s, 3, withClip(s.Nodes[3], squaresPath(-1, -1, 4, 4)))).frame(5, 2))
			}
		}
	}
}

// What has nothing in it changes nothing, whatever its Mode: a Group without kids, one whose kids have nothing here, a shape without lines.
func TestFramesOfWhatHasNothing(t *testing.T) {
	ground := withPaint(filledNode(1, 0, squaresPath(0, 0, 2, 1)), plainOf(255, 128, 3, 200))
	there := laidByLibrary(ground.Paint.First)
	want := rowFrom(there, there, impl.Color{})
	for _, mode := range allModes {
		for _, fade := range []int{0, 1, 255} {
			empty := withManner(groupNode(2, 0), mode, fade)
			away := withManner(filledNode(3, 2, squaresPath(3, 0, 1, 1)), mode, fade)
			clear := withManner(withPaint(filledNode(3, 2, squaresPath(0, 0, 3, 1)), plainOf(9, 9, 9, 0)), mode, fade)
			nothing := withManner(filledNode(3, 0, impl.Path{}), mode, fade)
			for _, s := range []impl.Scene{
				sceneOf(ground, empty), sceneOf(empty, ground), sceneOf(ground, empty, away), sceneOf(ground, empty, clear), sceneOf(empty, ground, clear),
				sceneOf(ground, empty, withManner(groupNode(4, 2), mode, fade), withManner(groupNode(5, 4), mode, fade)),
				sceneOf(ground, withClip(empty, oneSquare)), sceneOf(ground, nothing), sceneOf(nothing, ground), sceneOf(ground, withMat(empty, quarter)),
			} {
				checkFramesInAGroup(t, s, want)
			}
			checkFrames(t, sceneOf(empty), evenSurface(3, 2, impl.Color{}))
			checkFrames(t, sceneOf(nothing), evenSurface(3, 2, impl.Color{}))
		}
	}
}

// A Clip is on its own node and on all below it, not on those beside.
func TestFramesOfClips(t *testing.T) {
	row := squaresPath(0, 0, 5, 1)
	red, green, blue := withPaint(filledNode(1, 0, row), redPaint), withPaint(filledNode(2, 5, row), greenPaint), withPaint(filledNode(3, 6, row), bluePaint)
	first, second := squaresPath(1, 0, 3, 1), squaresPath(2, 0, 3, 1)
	checkFrames(t, sceneOf(withClip(red, first)), surfaceFrom(".rrr."))
	checkFrames(t, sceneOf(red, withClip(groupNode(5, 0), first), green), surfaceFrom("rgggr"))
	checkFrames(t, sceneOf(withClip(groupNode(5, 0), first), green, red), surfaceFrom("rrrrr"))
	inner := withClip(groupNode(6, 5), second)
	checkFrames(t, sceneOf(red, withClip(groupNode(5, 0), first), green, inner, blue), surfaceFrom("rgbbr"))
	checkFrames(t, sceneOf(red, withClip(groupNode(5, 0), first), inner, blue, green), surfaceFrom("rgggr"))
	checkFrames(t, sceneOf(red, groupNode(5, 0), green, inner, blue), surfaceFrom("ggbbb"))
	checkFrames(t, sceneOf(red, withClip(groupNode(5, 0), first), green, inner, withClip(blue, squaresPath(3, 0, 2, 1))), surfaceFrom("rggbr"))
	// The outermost one counts for what lies two Groups below it.
	checkFrames(t, sceneOf(red, withClip(groupNode(5, 0), first), groupNode(6, 5), blue), surfaceFrom("rbbbr"))
	// Each lies where its own node is.
	checkFrames(t, sceneOf(red, withMat(withClip(groupNode(5, 0), first), impl.Shift(256, 0)), green, inner, blue), surfaceFrom("rrgbb"))
	checkFrames(t, sceneOf(red, withClip(groupNode(5, 0), first), green, withMat(inner, impl.Shift(-256, 0)), blue), surfaceFrom("rbbbr"))
	// Half as great, blue has the upper points of the square 1, and one of the square 2.
	lesser := rowFrom(fullRed, impl.Color{G: 127, B: 128, A: 255}, impl.Color{G: 191, B: 64, A: 255}, fullColors['g'], fullRed)
	checkFrames(t, sceneOf(red, withClip(groupNode(5, 0), first), green, withMat(inner, grown(32768)), blue), lesser)
	// A Clip that takes a part of a square thins what is below; what was laid beside it stays.
	checkFrames(t, sceneOf(withClip(groupNode(5, 0), pathOfBits(1)), withPaint(filledNode(2, 5, oneSquare), redPaint)), reds(64, 0))
}

func TestFramesOfClipsThatLeaveNothing(t *testing.T) {
	ground := withPaint(filledNode(1, 0, squaresPath(0, 0, 3, 1)), blackPaint)
	for _, nothing := range []impl.Path{
		squaresPath(0, 1, 3, 1), squaresPath(7, 0, 2, 1), squaresPath(-3, -3, 2, 2), pathOf(t, "M 9 9"), pathOf(t, "M 9 9 Z"), pathOf(t, "M 0 0 L 900 0"), pathOf(t, "M 0 0 M 500 500"),
		bothPaths(squaresPath(0, 0, 3, 3), turnedPath(squaresPath(0, 0, 3, 3))), impl.RectPath(impl.Box{X0: 65, Y0: 0, X1: 192, Y1: 256}),
	} {
		shape := withPaint(filledNode(2, 3, squaresPath(0, 0, 3, 1)), redPaint)
		stroke := withPaint(strokedNode(2, 3, pathOf(t, "M 0 0 L 900 0"), 512), redPaint)
		for _, x := range []impl.Node{shape, evenly(shape), stroke, withManner(shape, impl.Out, 255), withManner(shape, impl.Plus, 100)} {
			checkFrames(t, sceneOf(ground, groupNode(3, 0), withClip(x, nothing)), surfaceFrom("kkk", "..."))
			checkFrames(t, sceneOf(ground, withClip(groupNode(3, 0), nothing), x), surfaceFrom("kkk", "..."))
			checkFrames(t, sceneOf(ground, withClip(groupNode(4, 0), nothing), groupNode(3, 4), withClip(x, squaresPath(0, 0, 3, 1))), surfaceFrom("kkk", "..."))
			checkFrames(t, sceneOf(ground, withManner(withClip(groupNode(3, 0), nothing), impl.Out, 255), x), surfaceFrom("kkk", "..."))
		}
	}
	// Without verbs there is no Clip.
	bare := withPaint(filledNode(2, 0, squaresPath(0, 0, 2, 1)), redPaint)
	bare.Clip = impl.Path{Verbs: []int{}, Points: []impl.Point{}}
	checkFramesInAGroup(t, sceneOf(ground, bare), surfaceFrom("rrk", "..."))
}

func TestFramesOfEvenShapes(t *testing.T) {
	twice := bothPaths(squaresPath(0, 0, 3, 1), squaresPath(1, 0, 3, 1))
	shape := withPaint(filledNode(1, 0, twice), redPaint)
	checkFramesInAGroup(t, sceneOf(shape), surfaceFrom("rrrr."))
	checkFramesInAGroup(t, sceneOf(evenly(shape)), surfaceFrom("r..r."))
	around := withPaint(filledNode(1, 0, bothPaths(squaresPath(0, 0, 2, 1), squaresPath(0, 0, 2, 1))), redPaint)
	checkFramesInAGroup(t, sceneOf(around), surfaceFrom("rr."))
	checkFramesInAGroup(t, sceneOf(evenly(around)), surfaceFrom("..."))
	back := withPaint(filledNode(1, 0, bothPaths(squaresPath(0, 0, 3, 1), turnedPath(squaresPath(1, 0, 3, 1)))), redPaint)
	checkFramesInAGroup(t, sceneOf(back), surfaceFrom("r..r."))
	checkFramesInAGroup(t, sceneOf(evenly(back)), surfaceFrom("r..r."))
	// A Clip is never even, be its node so or not; and Even is each node's own.
	whole := withPaint(filledNode(2, 0, squaresPath(0, 0, 5, 1)), greenPaint)
	checkFramesInAGroup(t, sceneOf(withClip(evenly(whole), twice)), surfaceFrom("gggg."))
	checkFramesInAGroup(t, sceneOf(withClip(whole, twice)), surfaceFrom("gggg."))
	checkFramesInAGroup(t, sceneOf(whole, evenly(shape)), surfaceFrom("rggrg"))
	checkFramesInAGroup(t, sceneOf(evenly(whole), shape), surfaceFrom("rrrrg"))
	checkFramesInAGroup(t, sceneOf(whole, withClip(evenly(shape), twice)), surfaceFrom("rggrg"))
	// A stroke isn't even.
	stroke := withPaint(strokedNode(1, 0, pathOf(t, "M 0 128 L 512 128 M 256 128 L 768 128"), 256), redPaint)
	checkFramesInAGroup(t, sceneOf(stroke), surfaceFrom("rrr."))
	checkFramesInAGroup(t, sceneOf(evenly(stroke)), surfaceFrom("rrr."))
}

func TestFramesOfStrokes(t *testing.T) {
	line := pathOf(t, "M 0 128 L 1536 128")
	stroke := withPaint(strokedNode(1, 0, line, 256), redPaint)
	checkFramesInAGroup(t, sceneOf(stroke), surfaceFrom("rrrrrr..", "........"))
	dashed := withPaint(strokedNode(1, 0, line, 256, 512, 256), redPaint)
	checkFramesInAGroup(t, sceneOf(dashed), surfaceFrom("rr.rr...", "........"))
	checkFramesInAGroup(t, sceneOf(withPaint(strokedNode(1, 0, line, 256, 256, 256, 256, 512), redPaint)), surfaceFrom("r.r..r..", "........"))
	checkFrames(t, sceneOf(withMat(dashed, impl.Shift(256, 256))), surfaceFrom("........", ".rr.rr.."))
	checkFrames(t, sceneOf(withClip(dashed, squaresPath(1, 0, 3, 1))), surfaceFrom(".r.r....", "........"))
	// Its Mat makes the line shorter, not the width and the dashes.
	checkFrames(t, sceneOf(withMat(dashed, impl.Mat{A: 32768, D: 32768, F: 64})), surfaceFrom("rr......", "........"))
	// Half of it lies beyond; a thinner one has two points of each.
	checkFrames(t, sceneOf(withPaint(strokedNode(1, 0, pathOf(t, "M 0 0 L 512 0"), 256), redPaint)), reds(128, 128, 0))
	checkFrames(t, sceneOf(withPaint(strokedNode(1, 0, pathOf(t, "M 0 64 L 512 64"), 16), redPaint)), reds(128, 128, 0))
	// Without a width its dashes are nothing, and a line alone has no inside.
	bare := withPaint(filledNode(1, 0, line), redPaint)
	bare.Dashes = []int{512, 256}
	checkFramesInAGroup(t, sceneOf(bare), surfaceFrom("........", "........"))
	bare.Path = squaresPath(0, 0, 2, 1)
	checkFramesInAGroup(t, sceneOf(bare), surfaceFrom("rr......", "........"))
	for i, s := range []impl.Scene{
		sceneOf(strokedNode(1, 0, pathOf(t, "M 100 100 Q 1500 0 900 1000 L 0 500 Z"), 200)), sceneOf(evenly(strokedNode(1, 0, pathOf(t, "M 0 0 L 900 900 L 900 0 L 0 900 Z"), 150, 300, 100))),
		sceneOf(strokedNode(1, 0, pathOf(t, "M 512 128 C 2000 0 -1000 1000 700 1024"), 333, 700, 200, 30, 100)), sceneOf(groupNode(2, 0), strokedNode(1, 2, squaresPath(-1, -1, 6, 6), 2048, 1, 1)),
	} {
		s.Nodes[len(s.Nodes)-1].Paint = rightPaints()[i*7]
		checkFrames(t, s, drawingOf(s).frame(6, 6))
	}
}

// What has no Mat has no shape, and its Clip leaves nothing.
func TestFramesWhereMatOfIsFalse(t *testing.T) {
	five, half, all := grown(327680), grown(32768), squaresPath(-9, -9, 99, 99)
	ground := withPaint(filledNode(4, 0, squaresPath(0, 0, 2, 1)), greenPaint)
	shape := withPaint(filledNode(3, 2, all), redPaint)
	chain := func(m impl.Mat) impl.Scene {
		return sceneOf(ground, withMat(groupNode(1, 0), five), withMat(groupNode(2, 1), m), withMat(shape, half))
	}
	checkFrames(t, chain(half), surfaceFrom("rrr", "rrr"))
	// 1 and 2 have no Mat together, while that of 3 is well within the limits.
	checkFrames(t, chain(five), surfaceFrom("rrr", "rrr"))
	spoiled := chain(five)
	spoiled.Nodes[2].Clip = all
	checkFrames(t, spoiled, surfaceFrom("gg.", "..."))
	spoiled.Nodes[2].Mode = impl.Out
	checkFrames(t, spoiled, surfaceFrom("gg.", "..."))
	outer := chain(five)
	outer.Nodes[1].Clip = pathOfBits(15)
	checkFrames(t, outer, surfaceFrom("rrr", "rrr"))
	outer.Nodes[1].Clip = impl.RectPath(impl.Box{X1: 100, Y1: 50})
	checkFrames(t, outer, surfaceFrom("rr.", "..."))
	// None for the shape itself.
	for _, x := range []impl.Node{shape, evenly(shape), withClip(shape, all), withPaint(strokedNode(3, 2, all, 2048), redPaint), withManner(shape, impl.Out, 255)} {
		nowhere := chain(impl.Still())
		nowhere.Nodes[3] = withMat(x, five)
		checkFrames(t, nowhere, surfaceFrom("gg.", "..."))
		checkFrames(t, turnedAround(nowhere), surfaceFrom("gg.", "..."))
	}
}

// A paint is the picture's: its node's Mat moves the shape alone, its Group's surface has it where the picture has.
func TestFramesOfSlopes(t *testing.T) {
	slope := impl.Paint{Kind: impl.Slope, Last: impl.Color{G: 200, A: 255}, From: impl.Point{X: 128}, To: impl.Point{X: 640}}
	s := sceneOf(withMat(groupNode(2, 0), impl.Shift(256, 256)), withMat(withPaint(filledNode(1, 2, squaresPath(0, 0, 2, 1)), slope), impl.Shift(0, -256)))
	checkFrames(t, s, rowFrom(impl.Color{}, impl.Color{G: 50, A: 128}, impl.Color{G: 200, A: 255}, impl.Color{}))
}

// Nodes in the room behind the list are none of the scene.
func TestFramesPassOverTheRoomBehind(t *testing.T) {
	all := sceneOf(groupNode(1, 0), withPaint(filledNode(2, 1, squaresPath(0, 0, 2, 1)), redPaint), withPaint(filledNode(3, 1, oneSquare), greenPaint), withPaint(filledNode(4, 0, oneSquare), bluePaint))
	for count, want := range []impl.Surface{surfaceFrom(".."), surfaceFrom(".."), surfaceFrom("rr"), surfaceFrom("gr"), surfaceFrom("br")} {
		for _, ask := range []frameOf{impl.FullFrame, impl.DenFrame} {
			got, ok := ask(impl.Scene{Nodes: all.Nodes[:count]}, 2, 1)
			if !ok || !isSurface(got, want) {
				t.Errorf("of the first %d nodes there came %v, %v, want %v", count, got, ok, want)
			}
		}
	}
}

// However many nodes a wrong scene has, and however long their lists are.
func TestFramesOfGreatWrongScenes(t *testing.T) {
	long := shapeNode(1, 0)
	long.Path = impl.Path{Verbs: slices.Repeat([]int{impl.MoveTo}, 700), Points: dots(700)}
	long.Dashes = slices.Repeat([]int{1}, 500)
	many := impl.Scene{Nodes: slices.Repeat([]impl.Node{long, {}, {Id: math.MinInt, Parent: math.MaxInt, Mode: -1}}, 400)}
	for _, s := range []impl.Scene{sceneOf(long), many, chainOf(3000), plusNode(many, shapeNode(2, 0))} {
		checkNoFrames(t, s, 12, 12)
		checkNoFrames(t, s, math.MinInt, math.MaxInt)
	}
}

// The lists of all nodes are one and the same memory; neither picture changes anything of them.
func TestFramesOfNodesThatShareTheirLists(t *testing.T) {
	shared := roomyNode(filledNode(1, 0, squaresPath(0, 0, 2, 2)))
	shared.Clip = shared.Path
	s := impl.Scene{}
	for id := 1; id <= 4; id++ {
		shared.Id, shared.Width, shared.Mode = id, id/3*100, id
		s.Nodes = append(s.Nodes, shared)
	}
	before, want := roomyScene(s), drawingOf(s).frame(4, 3)
	full, _ := impl.FullFrame(s, 4, 3)
	squares, _ := impl.DenFrame(s, 4, 3)
	if !isSurface(full, want) || !isSurface(squares, want) || !sameScene(s, before) {
		t.Errorf("FullFrame(%v, 4, 3) = %v, DenFrame %v, want %v", s, full, squares, want)
	}
}

// An answer is written over, with all of its room: other answers are as they were.
func TestFramesAreNewMemory(t *testing.T) {
	for i, s := range append(picturedScenes()[:40], impl.Scene{}, groupsOf(1, 0), sevenNodes()) {
		w, h := 1+i%5, 1+i%4
		want := drawingOf(s).frame(w, h)
		surfaces := []impl.Surface{}
		for range 2 {
			full, _ := impl.FullFrame(s, w, h)
			squares, _ := impl.DenFrame(s, w, h)
			surfaces = append(surfaces, full, squares)
		}
		for j, made := range surfaces {
			for _, other := range surfaces[j:] {
				if !isSurface(other, want) {
					t.Errorf("of %v there came %v, want %v", s, other, want)
				}
			}
			overwrite(made.Pix, spareColor)
		}
	}
}

// A size for each seed: most are small, some are as wide or as high as the limits.
func sizeOfPicture(seed int) (int, int) {
	switch seed % 10 {
	case 0:
		return 12, 1 + mixed(seed, 30, 5)
	case 1:
		return 1 + mixed(seed, 31, 5), 12
	}
	return 2 + mixed(seed, 32, 6), 2 + mixed(seed, 33, 6)
}

func TestFramesOfManyScenes(t *testing.T) {
	colors, seen := map[impl.Color]bool{}, 0
	for i, s := range picturedScenes() {
		w, h := sizeOfPicture(i)
		want := drawingOf(s).frame(w, h)
		checkFrames(t, s, want)
		if !isSurface(want, evenSurface(w, h, impl.Color{})) {
			seen++
		}
		for _, c := range want.Pix {
			colors[c] = true
		}
	}
	if len(colors) < 500 || seen < 300 {
		t.Errorf("only %d colours were seen, in %d scenes", len(colors), seen)
	}
}

func TestPromise19TheWholePictureIsTheOneOfItsSquares(t *testing.T) {
	scenes := slices.Concat(picturedScenes(), variedScenes(), []impl.Scene{{}, sevenNodes(), eightNodes(), groupsOf(1, 0, 2, 1)})
	seen := 0
	for i, s := range scenes {
		w, h := sizeOfPicture(i + 3)
		full, fullOk := impl.FullFrame(s, w, h)
		squares, squaresOk := impl.DenFrame(s, w, h)
		if !fullOk || !squaresOk || !impl.SameSurface(full, squares) {
			t.Errorf("FullFrame(%v, %d, %d) = %v, %v, but DenFrame %v, %v", s, w, h, full, fullOk, squares, squaresOk)
		}
		checkSurfaceOk(t, full, true)
		if full.W != w || full.H != h {
			t.Errorf("a picture of %d by %d is %d by %d", w, h, full.W, full.H)
		}
		for y := range h {
			for x := range w {
				want := impl.ColorOf(s, 0, x, y)
				if got := impl.PixelAt(full, x, y); got != want {
					t.Errorf("FullFrame(%v, %d, %d) has %v at %d, %d, where ColorOf is %v", s, w, h, got, x, y, want)
				}
				if want != (impl.Color{}) {
					seen++
				}
			}
		}
	}
	if seen < 1000 {
		t.Errorf("only %d squares were to be seen", seen)
	}
}

// Both tell the same of what they refuse, and refuse it wholly.
func TestPromise19OfWhatIsRefused(t *testing.T) {
	sizes := [][2]int{{1, 1}, {12, 12}, {0, 1}, {1, 0}, {13, 12}, {12, 13}, {-1, -1}, {math.MinInt, 3}, {3, math.MaxInt}}
	for i, s := range slices.Concat(wrongScenes(), rightScenes()[:30]) {
		for _, size := range sizes {
			full, fullOk := impl.FullFrame(s, size[0], size[1])
			squares, squaresOk := impl.DenFrame(s, size[0], size[1])
			_, sizeOk := impl.SurfaceNew(size[0], size[1])
			want := impl.SceneOk(s) && sizeOk
			if fullOk != want || squaresOk != want || !impl.SameSurface(full, squares) {
				t.Errorf("of scene %d at %v: %v and %v, want %v", i, size, fullOk, squaresOk, want)
			}
			if !want && !isSurface(full, impl.Surface{}) {
				t.Errorf("of scene %d at %v there came %v, though it is refused", i, size, full)
			}
		}
	}
}

// A smaller picture is a part of a greater one.
func TestPromise19APictureIsAPartOfAGreaterOne(t *testing.T) {
	for i, s := range picturedScenes() {
		if i%9 > 0 {
			continue
		}
		great, _ := impl.FullFrame(s, 12, 12)
		w, h := sizeOfPicture(i)
		small, _ := impl.FullFrame(s, w, h)
		if want := surfaceByRule(w, h, func(x int, y int) impl.Color { return impl.PixelAt(great, x, y) }); !isSurface(small, want) {
			t.Errorf("FullFrame(%v, %d, %d) = %v, but of the greater one that is %v", s, w, h, small, want)
		}
	}
}
