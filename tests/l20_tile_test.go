package tests

import (
	"math"
	"slices"
	"testing"

	"loop.example/g00190/impl"
)

// Below 0 or past the last tile of every picture; of some four or sixteen of it would wrap round to a square that is there.
var strangeTiles = []int{math.MinInt, math.MinInt + 1, -1 << 62, -1 << 60, -1 << 32, -144, -9, -4, -2, -1, 9, 10, 12, 16, 144, 1 << 32, 1 << 60, 1<<60 + 1, 1 << 62, 1<<62 + 1, math.MaxInt - 1, math.MaxInt}

// A slope aslant that covers every picture: each square has another colour than those beside it.
var everywhere = impl.Paint{Kind: impl.Slope, First: impl.Color{R: 255, G: 20, A: 255}, Last: impl.Color{G: 255, B: 90, A: 100}, From: middle(-3, 0), To: middle(13, 9)}

// By the words alone, square by square: where both sides are multiples of 4 a tile begins.
func tileCorners(w int, h int) []impl.Point {
	corners := []impl.Point{}
	for y := range h {
		for x := range w {
			if x%4 == 0 && y%4 == 0 {
				corners = append(corners, impl.Point{X: x, Y: y})
			}
		}
	}
	return corners
}

func tileOfSquare(w int, h int, x int, y int) int {
	return slices.Index(tileCorners(w, h), impl.Point{X: x - x%4, Y: y - y%4})
}

func tileBoxByHand(w int, h int, i int) impl.Box {
	corners := tileCorners(w, h)
	if i < 0 || i >= len(corners) {
		return impl.Box{}
	}
	own := impl.Box{X0: w, Y0: h}
	for y := range h {
		for x := range w {
			if tileOfSquare(w, h, x, y) == i {
				own = impl.Box{X0: min(own.X0, x), Y0: min(own.Y0, y), X1: max(own.X1, x+1), Y1: max(own.Y1, y+1)}
			}
		}
	}
	return own
}

// The tiles of all squares of the picture that are in one of the boxes.
func tilesByHand(w int, h int, list []impl.Box) []int {
	met := map[int]bool{}
	for y := range h {
		for x := range w {
			for _, b := range list {
				if hasPoint(b, impl.Point{X: x, Y: y}) {
					met[tileOfSquare(w, h, x, y)] = true
				}
			}
		}
	}
	tiles := []int{}
	for i := range len(tileCorners(w, h)) {
		if met[i] {
			tiles = append(tiles, i)
		}
	}
	return tiles
}

func allTiles(w int, h int) []int {
	tiles := []int{}
	for i := range tileCorners(w, h) {
		tiles = append(tiles, i)
	}
	return tiles
}

// Where a square is of one of these tiles it comes from painted, elsewhere from what was.
func inTiles(was impl.Surface, painted impl.Surface, tiles []int) impl.Surface {
	return surfaceByRule(was.W, was.H, func(x int, y int) impl.Color {
		if slices.Contains(tiles, tileOfSquare(was.W, was.H, x, y)) {
			return painted.Pix[y*was.W+x]
		}
		return was.Pix[y*was.W+x]
	})
}

func slopeScene() impl.Scene {
	return sceneOf(withPaint(filledNode(1, 0, squaresPath(-5, -5, 40, 40)), everywhere))
}

func slopeFrame(w int, h int) impl.Surface {
	return surfaceByRule(w, h, func(x int, y int) impl.Color { return colorByLibrary(everywhere, x, y) })
}

func checkTileCount(t *testing.T, w int, h int, want int) {
	t.Helper()
	if got := impl.TileCount(w, h); got != want {
		t.Errorf("TileCount(%d, %d) = %d, want %d", w, h, got, want)
	}
}

func checkTileBox(t *testing.T, w int, h int, i int, want impl.Box) {
	t.Helper()
	if got := impl.TileBox(w, h, i); got != want {
		t.Errorf("TileBox(%d, %d, %d) = %v, want %v", w, h, i, got, want)
	}
}

// A box behind the list, in its room, would meet every tile.
func checkTilesOf(t *testing.T, w int, h int, list []impl.Box, want ...int) {
	t.Helper()
	boxes, room := withRoom(list, wholeBox)
	before := slices.Clone(room)
	got := impl.TilesOf(w, h, boxes)
	if !slices.Equal(got, want) {
		t.Errorf("TilesOf(%d, %d, %v) = %v, want %v", w, h, list, got, want)
	}
	overwrite(got, 77)
	if again := impl.TilesOf(w, h, boxes); !slices.Equal(again, want) {
		t.Errorf("TilesOf(%d, %d, %v) came as %v once its answer was written over, want %v", w, h, list, again, want)
	}
	if !slices.Equal(room, before) {
		t.Errorf("TilesOf(%d, %d, %v) wrote into its list: %v", w, h, list, room)
	}
}

// The tile in the room behind the list is there, but not asked for.
func checkPaintTiles(t *testing.T, f impl.Surface, s impl.Scene, tiles []int, want impl.Surface) {
	t.Helper()
	surface, surfaceRoom := roomySurface(f)
	scene := roomyScene(s)
	list, listRoom := withRoom(tiles, 0)
	surfaceBefore, listBefore := slices.Clone(surfaceRoom), slices.Clone(listRoom)
	got := impl.PaintTiles(surface, scene, list)
	if !isSurface(got, want) {
		t.Errorf("PaintTiles(%v, %v, %v) = %v, want %v", f, s, tiles, got, want)
	}
	overwrite(got.Pix, spareColor)
	if !slices.Equal(surfaceRoom, surfaceBefore) || !slices.Equal(listRoom, listBefore) {
		t.Errorf("PaintTiles(%v, %v, %v) wrote into its lists, or shares them: %v, %v", f, s, tiles, surfaceRoom, listRoom)
	}
	checkLeft(t, "PaintTiles", scene, s)
	if again := impl.PaintTiles(surface, scene, list); !isSurface(again, want) {
		t.Errorf("PaintTiles(%v, %v, %v) came as %v once its answer was written over, want %v", f, s, tiles, again, want)
	}
}

func checkStays(t *testing.T, f impl.Surface, s impl.Scene, tiles []int) {
	t.Helper()
	checkPaintTiles(t, f, s, tiles, f)
}

func TestTileConstants(t *testing.T) {
	if impl.TileSide != 4 {
		t.Errorf("TileSide is %d, want 4", impl.TileSide)
	}
}

func TestTileCountWrittenOut(t *testing.T) {
	for _, c := range [][3]int{
		{1, 1, 1}, {3, 3, 1}, {4, 4, 1}, {4, 1, 1}, {1, 4, 1}, {5, 4, 2}, {4, 5, 2}, {5, 5, 4}, {5, 2, 2}, {2, 5, 2},
		{7, 2, 2}, {8, 2, 2}, {9, 2, 3}, {2, 8, 2}, {2, 9, 3}, {7, 7, 4}, {8, 8, 4}, {9, 8, 6}, {8, 9, 6}, {9, 9, 9},
		{11, 12, 9}, {12, 11, 9}, {12, 12, 9}, {12, 1, 3}, {1, 12, 3}, {12, 5, 6}, {5, 12, 6},
		{13, 12, 0}, {12, 13, 0}, {13, 13, 0}, {0, 0, 0}, {0, 4, 0}, {4, 0, 0}, {-4, 4, 0}, {4, -4, 0}, {-4, -4, 0}, {-1, -1, 0},
	} {
		checkTileCount(t, c[0], c[1], c[2])
	}
}

func TestTileCountOfEachSize(t *testing.T) {
	for w := 1; w <= 12; w++ {
		for h := 1; h <= 12; h++ {
			checkTileCount(t, w, h, len(tileCorners(w, h)))
		}
	}
}

func TestTileCountOfWrongSides(t *testing.T) {
	for _, wrong := range wrongSides {
		for _, other := range append([]int{3, 4, 5, 8, 9}, sideEdges...) {
			checkTileCount(t, wrong, other, 0)
			checkTileCount(t, other, wrong, 0)
		}
	}
}

func TestTileBoxWrittenOut(t *testing.T) {
	for i, want := range []impl.Box{{X1: 4, Y1: 2}, {X0: 4, X1: 5, Y1: 2}, {}} {
		checkTileBox(t, 5, 2, i, want)
	}
	for i, want := range []impl.Box{{X1: 2, Y1: 4}, {Y0: 4, X1: 2, Y1: 5}, {}} {
		checkTileBox(t, 2, 5, i, want)
	}
	for i, want := range []impl.Box{boxAt(0, 0, 4, 4), boxAt(4, 0, 4, 4), boxAt(8, 0, 2, 4), boxAt(0, 4, 4, 3), boxAt(4, 4, 4, 3), boxAt(8, 4, 2, 3), {}} {
		checkTileBox(t, 10, 7, i, want)
	}
	for i, want := range []impl.Box{
		boxAt(0, 0, 4, 4), boxAt(4, 0, 4, 4), boxAt(8, 0, 4, 4), boxAt(0, 4, 4, 4), boxAt(4, 4, 4, 4), boxAt(8, 4, 4, 4),
		boxAt(0, 8, 4, 4), boxAt(4, 8, 4, 4), boxAt(8, 8, 4, 4), {},
	} {
		checkTileBox(t, 12, 12, i, want)
	}
	checkTileBox(t, 1, 1, 0, boxAt(0, 0, 1, 1))
	checkTileBox(t, 4, 4, 0, boxAt(0, 0, 4, 4))
	checkTileBox(t, 4, 4, 1, impl.Box{})
	checkTileBox(t, 9, 1, 2, boxAt(8, 0, 1, 1))
	checkTileBox(t, 1, 9, 2, boxAt(0, 8, 1, 1))
}

func TestTileBoxOfEachSize(t *testing.T) {
	for w := 1; w <= 12; w++ {
		for h := 1; h <= 12; h++ {
			count := len(tileCorners(w, h))
			for i := -count; i <= 2*count; i++ {
				checkTileBox(t, w, h, i, tileBoxByHand(w, h, i))
			}
			checkTileBox(t, w, h, count, impl.Box{})
			for _, i := range strangeTiles {
				checkTileBox(t, w, h, i, impl.Box{})
			}
		}
	}
}

func TestTileBoxOfWrongSides(t *testing.T) {
	for _, wrong := range wrongSides {
		for _, other := range sideEdges {
			for _, i := range append([]int{0, 1, 2, 8}, strangeTiles...) {
				checkTileBox(t, wrong, other, i, impl.Box{})
				checkTileBox(t, other, wrong, i, impl.Box{})
			}
		}
	}
}

func TestTilesOfWrittenOut(t *testing.T) {
	checkTilesOf(t, 5, 2, []impl.Box{{X0: 4, X1: 9, Y1: 1}}, 1)
	checkTilesOf(t, 5, 2, []impl.Box{boxAt(0, 0, 5, 2)}, 0, 1)
	checkTilesOf(t, 5, 2, []impl.Box{boxAt(3, 1, 1, 1)}, 0)
	checkTilesOf(t, 5, 2, []impl.Box{boxAt(3, 1, 2, 1)}, 0, 1)
	checkTilesOf(t, 12, 12, []impl.Box{boxAt(3, 3, 2, 2)}, 0, 1, 3, 4)
	checkTilesOf(t, 12, 12, []impl.Box{boxAt(4, 4, 4, 4)}, 4)
	checkTilesOf(t, 12, 12, []impl.Box{boxAt(4, 4, 5, 4)}, 4, 5)
	checkTilesOf(t, 12, 12, []impl.Box{boxAt(3, 4, 5, 4)}, 3, 4)
	checkTilesOf(t, 12, 12, []impl.Box{boxAt(4, 4, 4, 5)}, 4, 7)
	checkTilesOf(t, 12, 12, []impl.Box{boxAt(4, 3, 4, 5)}, 1, 4)
	checkTilesOf(t, 12, 12, []impl.Box{boxAt(11, 11, 1, 1), boxAt(0, 0, 1, 1)}, 0, 8)
	// A row and a column of squares.
	checkTilesOf(t, 10, 7, []impl.Box{boxAt(-3, 5, 99, 1)}, 3, 4, 5)
	checkTilesOf(t, 10, 7, []impl.Box{boxAt(8, -3, 1, 99)}, 2, 5)
}

func TestTilesOfNoBoxes(t *testing.T) {
	for _, list := range [][]impl.Box{nil, {}, emptyBoxes} {
		for _, size := range [][2]int{{1, 1}, {5, 2}, {12, 12}, {4, 8}, {0, 1}, {13, 13}} {
			checkTilesOf(t, size[0], size[1], list)
		}
	}
	for _, b := range emptyBoxes {
		checkTilesOf(t, 12, 12, []impl.Box{b})
		checkTilesOf(t, 10, 7, []impl.Box{b, boxAt(5, 5, 1, 1), b}, 4)
	}
}

// Every box, empty or not, with its corners in and around the picture.
func TestTilesOfEachBox(t *testing.T) {
	for _, c := range []struct{ w, h, last int }{{5, 2, 6}, {2, 5, 6}, {4, 4, 5}, {1, 1, 3}, {9, 6, 10}, {12, 12, 13}} {
		for _, b := range boxesWithin(-1, c.last) {
			list := []impl.Box{b}
			want := tilesByHand(c.w, c.h, list)
			if got := impl.TilesOf(c.w, c.h, list); !slices.Equal(got, want) {
				t.Errorf("TilesOf(%d, %d, %v) = %v, want %v", c.w, c.h, list, got, want)
			}
		}
	}
}

func TestTilesOfEachSquare(t *testing.T) {
	for w := 1; w <= 12; w++ {
		for h := 1; h <= 12; h++ {
			for y := -1; y <= h; y++ {
				for x := -1; x <= w; x++ {
					square := []impl.Box{boxAt(x, y, 1, 1)}
					if x < 0 || y < 0 || x == w || y == h {
						checkTilesOf(t, w, h, square)
					} else {
						checkTilesOf(t, w, h, square, tileOfSquare(w, h, x, y))
					}
				}
			}
		}
	}
}

// One square wide or high, along each edge of each tile: on the tile's side of it, and on the other.
func TestTilesOfBoxesAtTheEdges(t *testing.T) {
	for _, size := range [][2]int{{12, 12}, {10, 7}, {5, 5}, {8, 4}, {3, 12}} {
		w, h := size[0], size[1]
		for i := range tileCorners(w, h) {
			b := tileBoxByHand(w, h, i)
			wide, high := b.X1-b.X0, b.Y1-b.Y0
			within := []impl.Box{boxAt(b.X0, b.Y0, 1, high), boxAt(b.X1-1, b.Y0, 1, high), boxAt(b.X0, b.Y0, wide, 1), boxAt(b.X0, b.Y1-1, wide, 1), b}
			for _, strip := range within {
				checkTilesOf(t, w, h, []impl.Box{strip}, i)
			}
			checkTilesOf(t, w, h, within, i)
			without := []impl.Box{boxAt(b.X0-1, b.Y0, 1, high), boxAt(b.X1, b.Y0, 1, high), boxAt(b.X0, b.Y0-1, wide, 1), boxAt(b.X0, b.Y1, wide, 1)}
			for _, strip := range without {
				list := []impl.Box{strip}
				want := tilesByHand(w, h, list)
				if slices.Contains(want, i) || len(want) > 1 {
					t.Errorf("%v beside tile %d has %v", strip, i, want)
				}
				checkTilesOf(t, w, h, list, want...)
			}
			checkTilesOf(t, w, h, without, tilesByHand(w, h, without)...)
		}
	}
}

func TestTilesOfGreatBoxes(t *testing.T) {
	low, high := math.MinInt, math.MaxInt
	for w := 1; w <= 12; w++ {
		for h := 1; h <= 12; h++ {
			checkTilesOf(t, w, h, []impl.Box{wholeBox}, allTiles(w, h)...)
			checkTilesOf(t, w, h, []impl.Box{{X1: w, Y1: h}}, allTiles(w, h)...)
			checkTilesOf(t, w, h, []impl.Box{{X0: low, Y0: low, X1: 1, Y1: 1}}, 0)
			checkTilesOf(t, w, h, []impl.Box{{X0: w - 1, Y0: h - 1, X1: high, Y1: high}}, len(tileCorners(w, h))-1)
			beyond := []impl.Box{{X0: low, Y0: low, X1: 0, Y1: high}, {X0: low, Y0: low, X1: high, Y1: 0}, {X0: w, Y0: low, X1: high, Y1: high}, {X0: low, Y0: h, X1: high, Y1: high}}
			for _, b := range append(beyond, impl.Box{X0: high - 1, Y0: high - 1, X1: high, Y1: high}, impl.Box{X0: low, Y0: low, X1: low + 1, Y1: low + 1}) {
				checkTilesOf(t, w, h, []impl.Box{b})
			}
			checkTilesOf(t, w, h, beyond)
		}
	}
	checkTilesOf(t, 12, 12, []impl.Box{{X0: low, Y0: 4, X1: high, Y1: 8}}, 3, 4, 5)
	checkTilesOf(t, 12, 12, []impl.Box{{X0: 7, Y0: low, X1: 8, Y1: high}}, 1, 4, 7)
}

// Each tile is told once and in its turn, whichever box it is that meets it.
func TestTilesOfSeveralBoxes(t *testing.T) {
	corner, midst, last := boxAt(0, 0, 1, 1), boxAt(5, 5, 2, 2), boxAt(10, 11, 1, 1)
	for _, list := range [][]impl.Box{{corner, midst, last}, {last, midst, corner}, {midst, corner, last}, {last, last, corner, midst, corner, midst}} {
		checkTilesOf(t, 12, 12, list, 0, 4, 8)
	}
	checkTilesOf(t, 12, 12, []impl.Box{boxAt(4, 4, 1, 1), boxAt(5, 5, 1, 1), boxAt(7, 7, 1, 1), boxAt(4, 4, 4, 4)}, 4)
	checkTilesOf(t, 12, 12, []impl.Box{boxAt(7, 7, 1, 1), boxAt(20, 4, 1, 1), boxAt(6, 6, 3, 1)}, 4, 5)
	checkTilesOf(t, 12, 12, []impl.Box{boxAt(0, 8, 12, 4), wholeBox, boxAt(0, 0, 1, 1)}, 0, 1, 2, 3, 4, 5, 6, 7, 8)
	for n := range 1500 {
		w, h := 1+mixed(n, 1, 12), 1+mixed(n, 2, 12)
		list := []impl.Box{}
		for k := range mixed(n, 3, 6) {
			list = append(list, boxAt(mixed(n, 10*k+4, 20)-4, mixed(n, 10*k+5, 20)-4, mixed(n, 10*k+6, 6), mixed(n, 10*k+7, 6)))
		}
		want := tilesByHand(w, h, list)
		checkTilesOf(t, w, h, list, want...)
		checkTilesOf(t, w, h, append(list, list...), want...)
		checkTilesOf(t, w, h, backwards(list), want...)
	}
}

func TestTilesOfManyBoxes(t *testing.T) {
	away := slices.Repeat([]impl.Box{boxAt(12, 0, 5, 5), boxAt(0, -3, 9, 3), {}}, 5000)
	checkTilesOf(t, 12, 12, away)
	checkTilesOf(t, 12, 12, append(away, boxAt(9, 5, 1, 1)), 5)
	checkTilesOf(t, 12, 12, slices.Repeat([]impl.Box{boxAt(9, 5, 1, 1), boxAt(2, 2, 1, 1)}, 5000), 0, 5)
}

func TestTilesOfWrongSides(t *testing.T) {
	for _, list := range [][]impl.Box{nil, {wholeBox}, {boxAt(0, 0, 1, 1), boxAt(-5, -5, 30, 30)}} {
		for _, wrong := range wrongSides {
			for _, other := range sideEdges {
				checkTilesOf(t, wrong, other, list)
				checkTilesOf(t, other, wrong, list)
			}
		}
	}
}

func TestTilesOfAnswersInNewMemory(t *testing.T) {
	list := []impl.Box{boxAt(3, 3, 2, 2), boxAt(11, 0, 1, 1)}
	one, other := impl.TilesOf(12, 12, list), impl.TilesOf(12, 12, list)
	overwrite(one, -1)
	if want := []int{0, 1, 2, 3, 4}; !slices.Equal(other, want) {
		t.Errorf("tiles that were not changed became %v, want %v", other, want)
	}
}

func TestPaintTilesWrittenOut(t *testing.T) {
	s := sceneOf(withPaint(filledNode(1, 0, squaresPath(1, 0, 5, 1)), redPaint))
	ground := surfaceFrom("gwkyb", "ybgwk")
	checkPaintTiles(t, ground, s, []int{0}, surfaceFrom(".rrrb", "....k"))
	checkPaintTiles(t, ground, s, []int{1}, surfaceFrom("gwkyr", "ybgw."))
	checkPaintTiles(t, ground, s, []int{0, 1}, surfaceFrom(".rrrr", "....."))
	checkPaintTiles(t, ground, s, nil, ground)
	high := surfaceFrom("ggg", "www", "kkk", "yyy", "bbb", "ggg")
	checkPaintTiles(t, high, s, []int{0}, surfaceFrom(".rr", "...", "...", "...", "bbb", "ggg"))
	checkPaintTiles(t, high, s, []int{1}, surfaceFrom("ggg", "www", "kkk", "yyy", "...", "..."))
	checkPaintTiles(t, surfaceFrom("g"), s, []int{0}, surfaceFrom("."))
	cross := sceneOf(withPaint(filledNode(1, 0, bothPaths(squaresPath(3, 0, 2, 9), squaresPath(0, 3, 9, 2))), bluePaint))
	checkPaintTiles(t, surfaceFrom("gggggg", "gggggg", "gggggg", "gggggg", "gggggg", "gggggg"), cross, []int{3, 0},
		surfaceFrom("...bgg", "...bgg", "...bgg", "bbbbgg", "ggggbb", "ggggb."))
}

func TestPaintTilesOfEachTileAndSize(t *testing.T) {
	s := slopeScene()
	for w := 1; w <= 12; w++ {
		for h := 1; h <= 12; h++ {
			was, painted := mottled(w, h, w+h), slopeFrame(w, h)
			for i := range tileCorners(w, h) {
				checkPaintTiles(t, was, s, []int{i}, inTiles(was, painted, []int{i}))
			}
			checkPaintTiles(t, was, s, allTiles(w, h), painted)
			checkStays(t, was, s, nil)
		}
	}
}

// Of three by three tiles, every choice of them, in order and turned round.
func TestPaintTilesOfEachChoice(t *testing.T) {
	s := slopeScene()
	for _, size := range [][2]int{{12, 12}, {9, 10}} {
		was, painted := mottled(size[0], size[1], 3), slopeFrame(size[0], size[1])
		for choice := range 512 {
			tiles := []int{}
			for i := range 9 {
				if choice>>i&1 == 1 {
					tiles = append(tiles, i)
				}
			}
			want := inTiles(was, painted, tiles)
			checkPaintTiles(t, was, s, tiles, want)
			checkPaintTiles(t, was, s, backwards(tiles), want)
		}
	}
}

// A tile that is told again is painted as it was; one that isn't there is passed over, and those behind it aren't.
func TestPaintTilesToldInEveryWay(t *testing.T) {
	s := slopeScene()
	was, painted := numbered(10, 7), slopeFrame(10, 7)
	for _, tiles := range [][]int{{4, 4}, {5, 0, 5}, {2, 3, 2, 3, 3}, {5, 4, 3, 2, 1, 0}, {0, 1, 2, 3, 4, 5, 0, 1, 2}, {1, 0}, {3, 5, 1}} {
		checkPaintTiles(t, was, s, tiles, inTiles(was, painted, tiles))
	}
	for _, strange := range append([]int{6, 7, 8}, strangeTiles...) {
		checkStays(t, was, s, []int{strange})
		checkStays(t, was, s, []int{strange, strange})
		for i := range 6 {
			want := inTiles(was, painted, []int{i})
			checkPaintTiles(t, was, s, []int{strange, i}, want)
			checkPaintTiles(t, was, s, []int{i, strange}, want)
			checkPaintTiles(t, was, s, []int{i, strange, i}, want)
		}
	}
	checkStays(t, was, s, strangeTiles)
	checkPaintTiles(t, was, s, slices.Concat(strangeTiles, []int{4, 6, 1}, strangeTiles), inTiles(was, painted, []int{1, 4}))
	checkPaintTiles(t, was, s, slices.Repeat([]int{4, -1, 6, 1, 1, math.MaxInt}, 20000), inTiles(was, painted, []int{1, 4}))
}

// Nodes that blend with what is there blend with the scene's own, never with the surface that was.
func TestPaintTilesDoesNotMindWhatWas(t *testing.T) {
	glass := plainOf(200, 90, 5, 100)
	scenes := []impl.Scene{{}, {Nodes: []impl.Node{}}, groupsOf(1, 0, 2, 1), sevenNodes()}
	for _, mode := range allModes {
		top := withManner(withPaint(filledNode(2, 0, squaresPath(0, 0, 12, 6)), glass), mode, 200)
		inner := top
		inner.Parent = 3
		ground := withPaint(filledNode(1, 0, pathOf(t, "M 0 0 L 1600 300 L 300 1600 Z")), everywhere)
		scenes = append(scenes, sceneOf(top), sceneOf(ground, top), sceneOf(withManner(groupNode(3, 0), mode, 99), inner), sceneOf(ground, withManner(groupNode(3, 0), mode, 99), inner))
	}
	for _, s := range scenes {
		painted := drawingOf(s).frame(9, 6)
		for _, was := range []impl.Surface{evenSurface(9, 6, impl.Color{}), evenSurface(9, 6, impl.Color{R: 255, G: 255, B: 255, A: 255}), mottled(9, 6, 1), mottled(9, 6, 8), painted} {
			for _, tiles := range [][]int{{0}, {1}, {5}, {0, 4}, {3, 2}, allTiles(9, 6)} {
				checkPaintTiles(t, was, s, tiles, inTiles(was, painted, tiles))
			}
		}
	}
}

// Each way for a surface to be wrong, whatever the scene and the tiles are.
func TestPaintTilesOnWhatIsNotRight(t *testing.T) {
	for _, wrong := range wrongSurfaces() {
		checkStays(t, wrong, slopeScene(), []int{0})
	}
	lists := [][]int{nil, {}, {0}, {0, 1, 2, 3, 4, 5, 6, 7, 8}, {-1}, {1, 1}, strangeTiles}
	for _, wrong := range fewWrongSurfaces() {
		for _, tiles := range lists {
			checkStays(t, wrong, slopeScene(), tiles)
			checkStays(t, wrong, impl.Scene{}, tiles)
			checkStays(t, wrong, sceneOf(impl.Node{}), tiles)
		}
		for i, s := range wrongScenes() {
			checkStays(t, wrong, s, lists[i%len(lists)])
		}
	}
}

// A wrong square of another tile than the one to be painted.
func TestPaintTilesLooksAtEachSquareOfTheSurface(t *testing.T) {
	right := mottled(10, 7, 2)
	for place := range right.Pix {
		for _, c := range []impl.Color{{R: 1}, {A: 256}, {B: -1, A: 255}} {
			for i := range tileCorners(10, 7) {
				checkStays(t, withPix(right, place, c), slopeScene(), []int{i})
			}
		}
	}
}

func TestPaintTilesOfScenesThatAreNotRight(t *testing.T) {
	for _, s := range wrongScenes() {
		for _, f := range fewSurfaces() {
			checkStays(t, f, s, allTiles(f.W, f.H))
		}
		checkStays(t, numbered(10, 7), s, nil)
		checkStays(t, numbered(10, 7), s, []int{0, 5, 0, 6, -1})
	}
	// One wrong node spoils all of them, be it to be seen or not.
	s := sceneOf(groupNode(1, 0), withPaint(filledNode(2, 1, oneSquare), redPaint), filledNode(3, 0, squaresPath(50, 0, 1, 1)), groupNode(4, 0))
	checkPaintTiles(t, surfaceFrom("gg", "gg"), s, []int{0}, surfaceFrom("r.", ".."))
	for place := range s.Nodes {
		bad := s.Nodes[place]
		bad.Fade = 256
		checkStays(t, surfaceFrom("gg", "gg"), withNode(s, place, bad), []int{0})
	}
}

func TestPaintTilesOfGreatWrongScenes(t *testing.T) {
	long := shapeNode(1, 0)
	long.Path = impl.Path{Verbs: slices.Repeat([]int{impl.MoveTo}, 700), Points: dots(700)}
	many := impl.Scene{Nodes: slices.Repeat([]impl.Node{long, {}, {Id: math.MinInt, Parent: math.MaxInt, Mode: -1}}, 400)}
	for _, s := range []impl.Scene{sceneOf(long), many, chainOf(3000)} {
		checkStays(t, mottled(12, 12, 4), s, allTiles(12, 12))
		checkStays(t, impl.Surface{W: math.MinInt, H: math.MaxInt, Pix: make([]impl.Color, 4000)}, s, []int{math.MinInt, math.MaxInt})
	}
}

// A picture that was refused leaves nothing behind it.
func TestPaintTilesAfterOneThatWasRefused(t *testing.T) {
	right, painted := numbered(5, 5), slopeFrame(5, 5)
	for _, wrong := range fewWrongSurfaces() {
		checkStays(t, wrong, slopeScene(), []int{0, 3})
		checkPaintTiles(t, right, slopeScene(), []int{0, 3}, inTiles(right, painted, []int{0, 3}))
		checkStays(t, right, sceneOf(impl.Node{}), []int{0, 3})
		checkPaintTiles(t, right, slopeScene(), []int{1}, inTiles(right, painted, []int{1}))
	}
}

// An answer is written over, with all of its room: other answers, and what was handed in, are as they were.
func TestPaintTilesAnswersInNewMemory(t *testing.T) {
	right := numbered(6, 5)
	for _, c := range []struct {
		f     impl.Surface
		s     impl.Scene
		tiles []int
	}{{right, slopeScene(), []int{0, 3}}, {right, slopeScene(), nil}, {right, slopeScene(), []int{9}}, {right, sceneOf(impl.Node{}), []int{0}}, {withPix(right, 3, impl.Color{R: 1}), slopeScene(), []int{0}}, {impl.Surface{W: 7, H: 1, Pix: right.Pix}, impl.Scene{}, []int{0}}} {
		before := copyOfSurface(c.f)
		one, other := impl.PaintTiles(c.f, c.s, c.tiles), impl.PaintTiles(c.f, c.s, c.tiles)
		want := copyOfSurface(other)
		overwrite(one.Pix, spareColor)
		if !isSurface(other, want) || !isSurface(c.f, before) {
			t.Errorf("PaintTiles(%v, %v, %v) shares its list: %v, want %v", before, c.s, c.tiles, other, want)
		}
	}
}

// Nodes, colours and tiles in the room behind the lists are none of the picture.
func TestPaintTilesPassesOverTheRoomBehind(t *testing.T) {
	nodes := []impl.Node{withPaint(filledNode(1, 0, oneSquare), redPaint), withPaint(filledNode(2, 0, oneSquare), greenPaint), {}}
	tiles := []int{1, 0}
	pix := slices.Concat(surfaceFrom("wwwww").Pix, []impl.Color{{R: 1}})
	f := impl.Surface{W: 5, H: 1, Pix: pix[:5]}
	for count, both := range []impl.Surface{surfaceFrom("....."), surfaceFrom("r...."), surfaceFrom("g....")} {
		s := impl.Scene{Nodes: nodes[:count]}
		for told, want := range []impl.Surface{surfaceFrom("wwwww"), surfaceFrom("wwww."), both} {
			if got := impl.PaintTiles(f, s, tiles[:told]); !isSurface(got, want) {
				t.Errorf("of the first %d nodes in the first %d tiles there came %v, want %v", count, told, got, want)
			}
		}
	}
}

// A wrong picture ends one call alone, not those that go on beside it.
func TestPaintTilesBesideEachOther(t *testing.T) {
	right, painted := mottled(12, 12, 5), slopeFrame(12, 12)
	done := make(chan string)
	for n := range 16 {
		go func() {
			fault := ""
			for range 50 {
				got, want := impl.PaintTiles(right, sceneOf(impl.Node{}), []int{n % 9}), right
				if n%2 == 0 {
					got, want = impl.PaintTiles(right, slopeScene(), []int{n % 9}), inTiles(right, painted, []int{n % 9})
				}
				if !isSurface(got, want) {
					fault = "a call beside others painted something else"
				}
			}
			done <- fault
		}()
	}
	for range 16 {
		if fault := <-done; fault != "" {
			t.Error(fault)
		}
	}
}

// Each square of the picture is in the box of one tile, and no box has any other.
func TestPromise20TilesAreThePicture(t *testing.T) {
	for w := 1; w <= 12; w++ {
		for h := 1; h <= 12; h++ {
			times := map[impl.Point]int{}
			for i := range impl.TileCount(w, h) {
				b := impl.TileBox(w, h, i)
				if impl.Empty(b) || b.X1-b.X0 > impl.TileSide || b.Y1-b.Y0 > impl.TileSide {
					t.Errorf("tile %d of %d by %d is %v", i, w, h, b)
				}
				for y := b.Y0; y < b.Y1; y++ {
					for x := b.X0; x < b.X1; x++ {
						times[impl.Point{X: x, Y: y}]++
					}
				}
			}
			for y := range h {
				for x := range w {
					if times[impl.Point{X: x, Y: y}] != 1 {
						t.Errorf("%d, %d of %d by %d is in %d tiles", x, y, w, h, times[impl.Point{X: x, Y: y}])
					}
				}
			}
			if len(times) != w*h {
				t.Errorf("the tiles of %d by %d have %d squares", w, h, len(times))
			}
		}
	}
}

// The box of a tile meets that tile alone, and the boxes of all tiles meet all.
func TestPromise20ATilesBoxIsItsOwn(t *testing.T) {
	for w := 1; w <= 12; w++ {
		for h := 1; h <= 12; h++ {
			boxes := []impl.Box{}
			for i := range impl.TileCount(w, h) {
				own := impl.TileBox(w, h, i)
				checkTilesOf(t, w, h, []impl.Box{own}, i)
				boxes = append(boxes, own)
			}
			checkTilesOf(t, w, h, boxes, allTiles(w, h)...)
		}
	}
}

func TestPromise20WhatIsPaintedIsRight(t *testing.T) {
	scenes := slices.Concat(picturedScenes(), variedScenes()[:100], []impl.Scene{{}, eightNodes()})
	painted, stayed := 0, 0
	for n, s := range scenes {
		w, h := sizeOfPicture(n + 5)
		was, tiles := mottled(w, h, n), []int{}
		for i := range impl.TileCount(w, h) {
			if mixed(n, 40+i, 2) == 0 {
				tiles = append(tiles, i)
			}
		}
		got := impl.PaintTiles(was, s, tiles)
		checkSurfaceOk(t, got, true)
		for y := range h {
			for x := range w {
				want := impl.PixelAt(was, x, y)
				if slices.Contains(tiles, tileOfSquare(w, h, x, y)) {
					want = impl.ColorOf(s, 0, x, y)
					painted++
				} else {
					stayed++
				}
				if there := impl.PixelAt(got, x, y); there != want {
					t.Errorf("PaintTiles(%v, %v, %v) has %v at %d, %d, want %v", was, s, tiles, there, x, y, want)
				}
			}
		}
	}
	if painted < 3000 || stayed < 3000 {
		t.Errorf("only %d squares were painted, and %d stayed", painted, stayed)
	}
}

// By the second reckoning too, and in as many steps as there are tiles.
func TestPromise20AllTilesAreTheWholePicture(t *testing.T) {
	for n, s := range picturedScenes() {
		w, h := sizeOfPicture(n + 7)
		was, want := mottled(w, h, n), drawingOf(s).frame(w, h)
		full, _ := impl.FullFrame(s, w, h)
		checkPaintTiles(t, was, s, allTiles(w, h), want)
		if got := impl.PaintTiles(was, s, allTiles(w, h)); !impl.SameSurface(got, full) {
			t.Errorf("all tiles of %v are %v, but FullFrame is %v", s, got, full)
		}
		bit := was
		for _, i := range backwards(allTiles(w, h)) {
			bit = impl.PaintTiles(bit, s, []int{i})
		}
		if !isSurface(bit, want) {
			t.Errorf("the tiles of %v one by one are %v, want %v", s, bit, want)
		}
		if again := impl.PaintTiles(bit, s, []int{n % 3}); !isSurface(again, want) {
			t.Errorf("the whole picture of %v, painted again in tile %d, is %v, want %v", s, n%3, again, want)
		}
	}
}

// A node is changed: the picture that was, painted again in the tiles of its bounds ahead of it and behind it, is the whole picture that is.
func TestPromise20TilesOfWhatChanged(t *testing.T) {
	spared := 0
	for n, s := range picturedScenes() {
		x := s.Nodes[mixed(n, 60, len(s.Nodes))]
		changed, code := impl.DropNode(s, x.Id)
		if n%3 > 0 {
			x.Fade, x.Mode, x.Mat = mixed(n, 61, 256), 1+mixed(n, 62, 5), impl.Shift(mixed(n, 63, 900), mixed(n, 64, 900)-300)
			changed, code = impl.SetNode(s, x)
		}
		if code != 0 {
			t.Fatalf("%v could not be changed: %d", s, code)
		}
		w, h := sizeOfPicture(n + 1)
		was, _ := impl.FullFrame(s, w, h)
		want, _ := impl.FullFrame(changed, w, h)
		tiles := impl.TilesOf(w, h, []impl.Box{impl.BoundsOf(s, x.Id), impl.BoundsOf(changed, x.Id)})
		if got := impl.PaintTiles(was, changed, tiles); !isSurface(got, want) {
			t.Errorf("from %v to %v, painted in %v, there came %v, want %v", s, changed, tiles, got, want)
		}
		spared += impl.TileCount(w, h) - len(tiles)
	}
	if spared < 200 {
		t.Errorf("only %d tiles were spared", spared)
	}
}
