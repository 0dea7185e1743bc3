package tests

import (
	"math"
	"slices"
	"testing"

	"loop.example/g00190/impl"
)

var wrongSides = []int{math.MinInt, math.MinInt + 1, -1 << 32, -12, -2, -1, 0, 13, 14, 144, 1 << 32, 1<<32 + 1, 1<<32 + 12, math.MaxInt - 1, math.MaxInt}

var sideEdges = append([]int{1, 2, 11, 12}, wrongSides...)

// Places outside of every surface; of some the place in Pix would wrap round to one that is there.
var farPlaces = []int{math.MinInt, math.MinInt + 1, -1 << 62, -1 << 61, -1 << 32, -2000, -13, -12, -1, 12, 13, 144, 2000, 1 << 32, 1 << 61, 1 << 62, 1<<62 + 1, math.MaxInt - 1, math.MaxInt}

var fullRed = impl.Color{R: 255, A: 255}

var spareColor = impl.Color{R: 71, G: 72, B: 73, A: 74}

// Laid colours without a plan to them, others for each seed.
func mottled(w int, h int, seed int) impl.Surface {
	colors := laidColors()
	s := impl.Surface{W: w, H: h}
	for i := range w * h {
		s.Pix = append(s.Pix, colors[(i*7+seed*31+i*i*seed)%len(colors)])
	}
	return s
}

// Right colours, each one another than those beside it, so that each square is told from the others.
func numbered(w int, h int) impl.Surface {
	s := impl.Surface{W: w, H: h}
	for i := range w * h {
		s.Pix = append(s.Pix, impl.Color{R: i, G: i / 2, B: i + 1, A: 100 + i})
	}
	return s
}

func evenSurface(w int, h int, c impl.Color) impl.Surface {
	return impl.Surface{W: w, H: h, Pix: slices.Repeat([]impl.Color{c}, w*h)}
}

// Wider than high, higher than wide, the least and the greatest.
func fewSurfaces() []impl.Surface {
	return []impl.Surface{mottled(1, 1, 1), mottled(5, 3, 2), mottled(3, 5, 3), mottled(12, 1, 4), mottled(1, 12, 5), mottled(12, 12, 6), evenSurface(4, 2, impl.Color{}), evenSurface(2, 4, impl.Color{R: 255, G: 255, B: 255, A: 255})}
}

func copyOfSurface(s impl.Surface) impl.Surface {
	return impl.Surface{W: s.W, H: s.H, Pix: slices.Clone(s.Pix)}
}

func withPix(s impl.Surface, place int, c impl.Color) impl.Surface {
	s = copyOfSurface(s)
	s.Pix[place] = c
	return s
}

func isSurface(a impl.Surface, b impl.Surface) bool {
	return a.W == b.W && a.H == b.H && slices.Equal(a.Pix, b.Pix)
}

// A surface with spare room behind its list, and all of that room.
func roomySurface(s impl.Surface) (impl.Surface, []impl.Color) {
	list, room := withRoom(s.Pix, spareColor)
	return impl.Surface{W: s.W, H: s.H, Pix: list}, room
}

// The first, a middle and the last place.
func threePlaces[T any](list []T) []int {
	return []int{0, len(list) / 2, len(list) - 1}
}

// Sides at and past their edges, with as many Pix as they ask for, or would if they wrapped round, or some others.
func surfacesWithWrongSides() []impl.Surface {
	list := []impl.Surface{}
	for _, wrong := range wrongSides {
		for _, other := range sideEdges {
			counts := []int{0, 1, 12, 144}
			if product := wrong * other; product > 0 && product < 400 {
				counts = append(counts, product)
			}
			for _, count := range counts {
				pix := slices.Repeat([]impl.Color{{R: 1, G: 2, B: 3, A: 4}}, count)
				list = append(list, impl.Surface{W: wrong, H: other, Pix: pix}, impl.Surface{W: other, H: wrong, Pix: pix})
			}
		}
	}
	return list
}

func surfacesWithWrongCounts() []impl.Surface {
	list := []impl.Surface{}
	for _, right := range fewSurfaces() {
		few, many := copyOfSurface(right), copyOfSurface(right)
		few.Pix, many.Pix = few.Pix[:len(few.Pix)-1], append(many.Pix, impl.Color{A: 9})
		list = append(list, few, many, impl.Surface{W: right.W, H: right.H}, impl.Surface{W: right.W, H: right.H, Pix: []impl.Color{}})
	}
	return list
}

func surfacesWithWrongPix() []impl.Surface {
	list := []impl.Surface{}
	for i, wrong := range notLaid() {
		right := fewSurfaces()[i%len(fewSurfaces())]
		for _, place := range threePlaces(right.Pix) {
			list = append(list, withPix(right, place, wrong))
		}
	}
	return list
}

// Each wrong in a way of its own; the one of zeros is the first.
func wrongSurfaces() []impl.Surface {
	list := append([]impl.Surface{{}}, surfacesWithWrongSides()...)
	return slices.Concat(list, surfacesWithWrongCounts(), surfacesWithWrongPix())
}

// One or two of each way to be wrong.
func fewWrongSurfaces() []impl.Surface {
	right := mottled(4, 3, 7)
	return []impl.Surface{
		{}, {W: 4, H: 3}, {W: 0, H: 3}, {W: 4, H: 0}, {W: 13, H: 1, Pix: make([]impl.Color, 13)}, {W: 1, H: 13, Pix: make([]impl.Color, 13)},
		{W: -4, H: -3, Pix: right.Pix}, {W: 4, H: 3, Pix: right.Pix[1:]}, {W: 4, H: 2, Pix: right.Pix}, {W: 1 << 32, H: 1 << 32},
		withPix(right, 0, impl.Color{R: 1}), withPix(right, 5, impl.Color{A: 256}), withPix(right, 11, impl.Color{G: -1, A: 5}),
	}
}

func fewMasks() []impl.Mask {
	return []impl.Mask{
		{}, evenMask(boxAt(0, 0, 12, 12), 15), evenMask(boxAt(0, 0, 12, 12), 0), maskFrom(0, 0, "f5", "2e"),
		maskByRule(boxAt(-3, -2, 20, 20), func(x int, y int) int { return (7*x + 3*y) & 15 }),
	}
}

// A fade past its limits makes clear what comes.
func fadedByLibrary(c impl.Color, fade int) impl.Color {
	if fade < 0 || fade > 255 {
		return impl.Color{}
	}
	return lessenedByLibrary(c, fade, 255)
}

func laidOverByLibrary(mode int, s impl.Color, d impl.Color) impl.Color {
	if !slices.Contains(allModes, mode) {
		return d
	}
	return blendByLibrary(mode, s, d)
}

// How many of the four bits there are, for each one by itself.
func countByHand(bits int) int {
	return bits%2 + bits/2%2 + bits/4%2 + bits/8%2
}

// Of a right surface, mask and paint.
func paintByLibrary(s impl.Surface, m impl.Mask, p impl.Paint, mode int, fade int) impl.Surface {
	painted := copyOfSurface(s)
	for i, there := range s.Pix {
		x, y := i%s.W, i/s.W
		if bits := bitsByHand(m, x, y); bits != 0 {
			comes := lessenedByLibrary(colorByLibrary(p, x, y), countByHand(bits), 4)
			painted.Pix[i] = laidOverByLibrary(mode, fadedByLibrary(comes, fade), there)
		}
	}
	return painted
}

// Of right surfaces, as wide and high as each other.
func layByLibrary(s impl.Surface, t impl.Surface, mode int, fade int) impl.Surface {
	laid := copyOfSurface(s)
	for i, there := range s.Pix {
		laid.Pix[i] = laidOverByLibrary(mode, fadedByLibrary(t.Pix[i], fade), there)
	}
	return laid
}

func checkSurfaceOk(t *testing.T, s impl.Surface, want bool) {
	t.Helper()
	roomy, room := roomySurface(s)
	before := slices.Clone(room)
	if got := impl.SurfaceOk(roomy); got != want {
		t.Errorf("SurfaceOk(%v) = %v, want %v", s, got, want)
	}
	if !slices.Equal(room, before) {
		t.Errorf("SurfaceOk(%v) wrote into its list: %v", s, room)
	}
}

func checkPixelAt(t *testing.T, s impl.Surface, x int, y int, want impl.Color) {
	t.Helper()
	roomy, room := roomySurface(s)
	before := slices.Clone(room)
	if got := impl.PixelAt(roomy, x, y); got != want {
		t.Errorf("PixelAt(%v, %d, %d) = %v, want %v", s, x, y, got, want)
	}
	if !slices.Equal(room, before) {
		t.Errorf("PixelAt(%v, %d, %d) wrote into its list: %v", s, x, y, room)
	}
}

// What is written into an answer, and into the room behind it, must not come to the lists that were handed in.
func checkPaintMask(t *testing.T, s impl.Surface, m impl.Mask, p impl.Paint, mode int, fade int, want impl.Surface) {
	t.Helper()
	roomy, room := roomySurface(s)
	bits, bitsRoom := withRoom(m.Bits, 15)
	before, bitsBefore := slices.Clone(room), slices.Clone(bitsRoom)
	got := impl.PaintMask(roomy, impl.Mask{Box: m.Box, Bits: bits}, p, mode, fade)
	if !isSurface(got, want) {
		t.Errorf("PaintMask(%v, %v, %v, %d, %d) = %v, want %v", s, m, p, mode, fade, got, want)
	}
	if impl.SurfaceOk(s) && !impl.SurfaceOk(got) {
		t.Errorf("PaintMask(%v, %v, %v, %d, %d) = %v, which is not right", s, m, p, mode, fade, got)
	}
	overwrite(got.Pix, impl.Color{R: 9, G: 9, B: 9, A: 9})
	if !slices.Equal(room, before) || !slices.Equal(bitsRoom, bitsBefore) {
		t.Errorf("PaintMask(%v, %v, %v, %d, %d) wrote into its lists, or shares them: %v, %v", s, m, p, mode, fade, room, bitsRoom)
	}
}

func checkLayOver(t *testing.T, s impl.Surface, over impl.Surface, mode int, fade int, want impl.Surface) {
	t.Helper()
	first, firstRoom := roomySurface(s)
	second, secondRoom := roomySurface(over)
	firstBefore, secondBefore := slices.Clone(firstRoom), slices.Clone(secondRoom)
	got := impl.LayOver(first, second, mode, fade)
	if !isSurface(got, want) {
		t.Errorf("LayOver(%v, %v, %d, %d) = %v, want %v", s, over, mode, fade, got, want)
	}
	if impl.SurfaceOk(s) && !impl.SurfaceOk(got) {
		t.Errorf("LayOver(%v, %v, %d, %d) = %v, which is not right", s, over, mode, fade, got)
	}
	overwrite(got.Pix, impl.Color{R: 9, G: 9, B: 9, A: 9})
	if !slices.Equal(firstRoom, firstBefore) || !slices.Equal(secondRoom, secondBefore) {
		t.Errorf("LayOver(%v, %v, %d, %d) wrote into its lists, or shares them: %v, %v", s, over, mode, fade, firstRoom, secondRoom)
	}
}

// Asked for both ways around; the rooms behind the lists are not alike, and count for nothing.
func checkSameSurface(t *testing.T, a impl.Surface, b impl.Surface, want bool) {
	t.Helper()
	first, firstRoom := roomySurface(a)
	second := copyOfSurface(b)
	firstBefore, secondBefore := slices.Clone(firstRoom), copyOfSurface(b)
	if got := impl.SameSurface(first, second); got != want {
		t.Errorf("SameSurface(%v, %v) = %v, want %v", a, b, got, want)
	}
	if got := impl.SameSurface(second, first); got != want {
		t.Errorf("SameSurface(%v, %v) = %v, want %v", b, a, got, want)
	}
	if !slices.Equal(firstRoom, firstBefore) || !isSurface(second, secondBefore) {
		t.Errorf("SameSurface(%v, %v) wrote into its lists: %v, %v", a, b, firstRoom, second)
	}
}

func TestSurfaceConstants(t *testing.T) {
	if impl.MaxSide != 12 {
		t.Errorf("MaxSide is %d, want 12", impl.MaxSide)
	}
}

func TestSurfaceNewOfEachSize(t *testing.T) {
	for w := 1; w <= 12; w++ {
		for h := 1; h <= 12; h++ {
			got, ok := impl.SurfaceNew(w, h)
			if !ok || !isSurface(got, impl.Surface{W: w, H: h, Pix: make([]impl.Color, w*h)}) {
				t.Errorf("SurfaceNew(%d, %d) = %v, %v, want %d colours of zeros and true", w, h, got, ok, w*h)
			}
			checkSurfaceOk(t, got, true)
		}
	}
}

func TestSurfaceNewOfWrongSides(t *testing.T) {
	for _, wrong := range wrongSides {
		for _, other := range sideEdges {
			for _, sides := range [][2]int{{wrong, other}, {other, wrong}} {
				got, ok := impl.SurfaceNew(sides[0], sides[1])
				if ok || !isSurface(got, impl.Surface{}) {
					t.Errorf("SurfaceNew(%d, %d) = %v, %v, want the surface of zeros and false", sides[0], sides[1], got, ok)
				}
			}
		}
	}
}

func TestSurfaceNewAnswersInNewMemory(t *testing.T) {
	for range 2 {
		one, _ := impl.SurfaceNew(3, 2)
		other, _ := impl.SurfaceNew(3, 2)
		if !isSurface(other, evenSurface(3, 2, impl.Color{})) {
			t.Errorf("a new surface is %v", other)
		}
		overwrite(one.Pix, fullRed)
		if !isSurface(other, evenSurface(3, 2, impl.Color{})) {
			t.Errorf("a surface that was not changed became %v", other)
		}
	}
}

func TestSurfaceOkOfEachSize(t *testing.T) {
	for w := 1; w <= 12; w++ {
		for h := 1; h <= 12; h++ {
			s := mottled(w, h, w+h)
			checkSurfaceOk(t, s, true)
			for count := range 160 {
				pix := slices.Repeat([]impl.Color{{R: 3, G: 2, B: 1, A: 3}}, count)
				if got := impl.SurfaceOk(impl.Surface{W: w, H: h, Pix: pix}); got != (count == w*h) {
					t.Errorf("SurfaceOk of %d by %d and %d Pix is %v", w, h, count, got)
				}
			}
		}
	}
}

func TestSurfaceOkOfWrongSides(t *testing.T) {
	for _, s := range surfacesWithWrongSides() {
		checkSurfaceOk(t, s, false)
	}
	checkSurfaceOk(t, impl.Surface{}, false)
	checkSurfaceOk(t, impl.Surface{Pix: make([]impl.Color, 1)}, false)
	// The product of the sides wraps round to the number of Pix.
	checkSurfaceOk(t, impl.Surface{W: 1 << 32, H: 1 << 32}, false)
	checkSurfaceOk(t, impl.Surface{W: 1<<62 + 1, H: 4, Pix: make([]impl.Color, 4)}, false)
	checkSurfaceOk(t, impl.Surface{W: -3, H: -4, Pix: make([]impl.Color, 12)}, false)
	checkSurfaceOk(t, impl.Surface{W: math.MinInt, H: 2}, false)
}

func TestSurfaceOkCountsItsPix(t *testing.T) {
	for _, s := range fewSurfaces() {
		checkSurfaceOk(t, s, true)
	}
	for _, s := range surfacesWithWrongCounts() {
		checkSurfaceOk(t, s, false)
	}
}

func TestSurfaceOkLooksAtEachPix(t *testing.T) {
	for _, s := range surfacesWithWrongPix() {
		checkSurfaceOk(t, s, false)
	}
	for _, s := range fewSurfaces() {
		for place := range s.Pix {
			checkSurfaceOk(t, withPix(s, place, impl.Color{R: 8, G: 8, B: 8, A: 7}), false)
			checkSurfaceOk(t, withPix(s, place, impl.Color{R: 8, G: 8, B: 8, A: 8}), true)
		}
	}
}

// What stands behind the list counts neither for its number nor for its colours.
func TestSurfaceOkPassesOverTheRoomBehind(t *testing.T) {
	room := append(slices.Clone(mottled(3, 2, 1).Pix), impl.Color{R: 1}, impl.Color{A: 300})
	if !impl.SurfaceOk(impl.Surface{W: 3, H: 2, Pix: room[:6]}) {
		t.Error("wrong colours behind the list make it wrong")
	}
	for count := range 6 {
		if impl.SurfaceOk(impl.Surface{W: 3, H: 2, Pix: room[:count]}) {
			t.Errorf("%d Pix and room for more are right for 3 by 2", count)
		}
	}
}

func TestPixelAtEachSquare(t *testing.T) {
	for w := 1; w <= 12; w++ {
		for h := 1; h <= 12; h++ {
			s := numbered(w, h)
			for y := -1; y <= h; y++ {
				for x := -1; x <= w; x++ {
					want := impl.Color{}
					if x >= 0 && x < w && y >= 0 && y < h {
						want = impl.Color{R: y*w + x, G: (y*w + x) / 2, B: y*w + x + 1, A: 100 + y*w + x}
					}
					checkPixelAt(t, s, x, y, want)
				}
			}
		}
	}
}

func TestPixelAtWrittenOut(t *testing.T) {
	a, b, c, d, e, f := impl.Color{A: 1}, impl.Color{A: 2}, impl.Color{A: 3}, impl.Color{A: 4}, impl.Color{A: 5}, impl.Color{A: 6}
	wide := impl.Surface{W: 3, H: 2, Pix: []impl.Color{a, b, c, d, e, f}}
	high := impl.Surface{W: 2, H: 3, Pix: []impl.Color{a, b, c, d, e, f}}
	for _, x := range []struct {
		s    impl.Surface
		x, y int
		want impl.Color
	}{
		{wide, 0, 0, a}, {wide, 2, 0, c}, {wide, 0, 1, d}, {wide, 2, 1, f}, {wide, 1, 0, b}, {wide, 1, 1, e},
		{high, 0, 0, a}, {high, 1, 0, b}, {high, 0, 1, c}, {high, 1, 1, d}, {high, 0, 2, e}, {high, 1, 2, f},
		{wide, 3, 0, impl.Color{}}, {wide, -1, 1, impl.Color{}}, {wide, 0, 2, impl.Color{}}, {wide, 0, -1, impl.Color{}}, {wide, 5, 0, impl.Color{}}, {wide, 3, -1, impl.Color{}},
		{high, 2, 0, impl.Color{}}, {high, -1, 1, impl.Color{}}, {high, 0, 3, impl.Color{}}, {high, 1, -1, impl.Color{}}, {high, 2, 2, impl.Color{}}, {high, -1, 3, impl.Color{}},
	} {
		checkPixelAt(t, x.s, x.x, x.y, x.want)
	}
}

func TestPixelAtFarOutside(t *testing.T) {
	for _, size := range [][2]int{{1, 1}, {4, 3}, {3, 4}, {8, 8}, {12, 12}, {2, 12}, {12, 2}} {
		s := numbered(size[0], size[1])
		for _, far := range farPlaces {
			for inside := range min(size[0], size[1]) {
				checkPixelAt(t, s, far, inside, impl.Color{})
				checkPixelAt(t, s, inside, far, impl.Color{})
			}
			for _, other := range farPlaces {
				checkPixelAt(t, s, far, other, impl.Color{})
			}
		}
	}
}

func TestPixelAtOfWhatIsNotRight(t *testing.T) {
	for _, s := range wrongSurfaces() {
		for _, place := range []impl.Point{{}, {X: 1}, {Y: 1}, {X: 2, Y: 2}, {X: -1, Y: -1}, {X: 11, Y: 11}, {X: math.MinInt, Y: math.MaxInt}} {
			checkPixelAt(t, s, place.X, place.Y, impl.Color{})
		}
	}
}

func TestPaintMaskWrittenOut(t *testing.T) {
	blue := impl.Color{B: 255, A: 255}
	p := plainOf(200, 100, 50, 255)
	none := impl.Color{}
	blank := impl.Surface{W: 3, H: 2, Pix: make([]impl.Color, 6)}
	full := evenSurface(3, 2, blue)
	m := maskFrom(0, 0, "013", "7f8")
	one, two, three, four := impl.Color{R: 50, G: 25, B: 13, A: 64}, impl.Color{R: 100, G: 50, B: 25, A: 128}, impl.Color{R: 150, G: 75, B: 38, A: 191}, impl.Color{R: 200, G: 100, B: 50, A: 255}
	for _, c := range []struct {
		s    impl.Surface
		m    impl.Mask
		mode int
		fade int
		want []impl.Color
	}{
		{blank, m, impl.Over, 255, []impl.Color{none, one, two, three, four, one}},
		{full, m, impl.Over, 255, []impl.Color{blue, {R: 50, G: 25, B: 204, A: 255}, {R: 100, G: 50, B: 152, A: 255}, {R: 150, G: 75, B: 102, A: 255}, four, {R: 50, G: 25, B: 204, A: 255}}},
		{full, m, impl.Out, 255, []impl.Color{blue, {B: 191, A: 191}, {B: 127, A: 127}, {B: 64, A: 64}, none, {B: 191, A: 191}}},
		{blank, m, impl.Out, 255, []impl.Color{none, none, none, none, none, none}},
		{blank, m, impl.Over, 128, []impl.Color{none, {R: 25, G: 13, B: 7, A: 32}, {R: 50, G: 25, B: 13, A: 64}, {R: 75, G: 38, B: 19, A: 96}, {R: 100, G: 50, B: 25, A: 128}, {R: 25, G: 13, B: 7, A: 32}}},
		{blank, m, impl.Over, 0, []impl.Color{none, none, none, none, none, none}},
		{full, m, impl.Over, 0, full.Pix},
		{full, m, impl.Over, -1, full.Pix},
		{full, m, impl.Over, 256, full.Pix},
		{full, m, 0, 255, full.Pix},
		{full, m, 6, 255, full.Pix},
		{full, m, impl.Plus, 255, []impl.Color{blue, {R: 50, G: 25, B: 255, A: 255}, {R: 100, G: 50, B: 255, A: 255}, {R: 150, G: 75, B: 255, A: 255}, {R: 200, G: 100, B: 255, A: 255}, {R: 50, G: 25, B: 255, A: 255}}},
		{full, m, impl.Screen, 255, []impl.Color{blue, {R: 50, G: 25, B: 255, A: 255}, {R: 100, G: 50, B: 255, A: 255}, {R: 150, G: 75, B: 255, A: 255}, {R: 200, G: 100, B: 255, A: 255}, {R: 50, G: 25, B: 255, A: 255}}},
		{full, m, impl.Multiply, 255, []impl.Color{blue, {B: 204, A: 255}, {B: 152, A: 255}, {B: 102, A: 255}, {B: 50, A: 255}, {B: 204, A: 255}}},
		{blank, maskFrom(1, 0, "f"), impl.Over, 255, []impl.Color{none, four, none, none, none, none}},
		{blank, maskFrom(0, 1, "f"), impl.Over, 255, []impl.Color{none, none, none, four, none, none}},
		{blank, maskFrom(-1, -1, "ff", "f3"), impl.Over, 255, []impl.Color{two, none, none, none, none, none}},
		{blank, maskFrom(2, 1, "cf", "ff"), impl.Over, 255, []impl.Color{none, none, none, none, none, two}},
	} {
		checkPaintMask(t, c.s, c.m, p, c.mode, c.fade, impl.Surface{W: 3, H: 2, Pix: c.want})
	}
}

// First thinned, faded then: the other way around 1 would come of 100.
func TestPaintMaskThinsAheadOfFading(t *testing.T) {
	p := plainOf(0, 0, 0, 100)
	checkPaintMask(t, evenSurface(1, 1, impl.Color{}), maskFrom(0, 0, "6"), p, impl.Over, 2, evenSurface(1, 1, impl.Color{}))
	checkPaintMask(t, evenSurface(1, 1, impl.Color{}), maskFrom(0, 0, "f"), p, impl.Over, 2, evenSurface(1, 1, impl.Color{A: 1}))
}

func TestPaintMaskOfEachBits(t *testing.T) {
	m := maskByRule(boxAt(0, 0, 4, 4), func(x int, y int) int { return 4*y + x })
	for _, mode := range allModes {
		for _, p := range []impl.Paint{plainOf(255, 128, 1, 255), plainOf(90, 200, 17, 77), slopeOfSquares(0, 0, 3, 3)} {
			for _, s := range []impl.Surface{evenSurface(4, 4, impl.Color{}), evenSurface(4, 4, impl.Color{R: 10, G: 128, B: 255, A: 255}), mottled(4, 4, 3), mottled(6, 3, 4), mottled(3, 6, 4)} {
				checkPaintMask(t, s, m, p, mode, 255, paintByLibrary(s, m, p, mode, 255))
			}
		}
	}
}

// The box beside, beyond and partly beyond the surface on each side, and all around it.
func TestPaintMaskOfBoxesAllAround(t *testing.T) {
	for _, size := range [][2]int{{1, 1}, {3, 2}, {2, 3}} {
		s := mottled(size[0], size[1], 5)
		for _, sides := range [][2]int{{1, 1}, {2, 1}, {1, 2}, {3, 4}, {6, 5}} {
			for y := -sides[1] - 1; y <= size[1]+1; y++ {
				for x := -sides[0] - 1; x <= size[0]+1; x++ {
					m := maskByRule(boxAt(x, y, sides[0], sides[1]), func(x int, y int) int { return 15 - (5*x+3*y)&7 })
					p := slopeFrom(-500, -300, 900, 1100)
					checkPaintMask(t, s, m, p, impl.Over, 200, paintByLibrary(s, m, p, impl.Over, 200))
					if !meetsSize(m.Box, size[0], size[1]) {
						checkPaintMask(t, s, m, p, impl.Over, 255, s)
					}
				}
			}
		}
	}
}

// Whether the box has a square of a surface of this size.
func meetsSize(b impl.Box, w int, h int) bool {
	return b.X0 < w && b.X1 > 0 && b.Y0 < h && b.Y1 > 0
}

func TestPaintMaskOfAllKindsOfMasks(t *testing.T) {
	p := plainOf(250, 10, 130, 180)
	for _, m := range rightMasks() {
		for _, s := range []impl.Surface{mottled(5, 3, 2), mottled(3, 5, 2)} {
			checkPaintMask(t, s, m, p, impl.Over, 255, paintByLibrary(s, m, p, impl.Over, 255))
		}
	}
	great := maskByRule(boxAt(-24, -24, 60, 60), func(x int, y int) int { return (11*x + 5*y) & 15 })
	for _, s := range fewSurfaces() {
		checkPaintMask(t, s, great, p, impl.Over, 255, paintByLibrary(s, great, p, impl.Over, 255))
	}
}

func TestPaintMaskWithoutAnything(t *testing.T) {
	for _, s := range append(fewSurfaces(), fewWrongSurfaces()...) {
		for _, mode := range append(allModes, 0, 6) {
			checkPaintMask(t, s, impl.Mask{}, plainOf(255, 255, 255, 255), mode, 255, s)
			checkPaintMask(t, s, impl.Mask{Bits: []int{}}, plainOf(255, 255, 255, 255), mode, 255, s)
			checkPaintMask(t, s, evenMask(boxAt(0, 0, 12, 12), 0), plainOf(255, 255, 255, 255), mode, 255, s)
		}
	}
}

func TestPaintMaskOfEachModeAndFade(t *testing.T) {
	for _, mode := range append(slices.Clone(allModes), wrongModes...) {
		for _, fade := range append(slices.Clone(partEdges), wrongParts...) {
			for i, s := range []impl.Surface{mottled(3, 2, 1), mottled(2, 3, 9)} {
				m := maskFrom(0, 0, "1f7", "3e0", "2d8")
				p := []impl.Paint{plainOf(200, 255, 3, 190), slopeOfSquares(0, 2, 2, 0)}[i]
				checkPaintMask(t, s, m, p, mode, fade, paintByLibrary(s, m, p, mode, fade))
			}
		}
	}
	// A mode that is none, or a fade that is, leaves each square as it was.
	for _, s := range fewSurfaces() {
		for _, mode := range wrongModes {
			checkPaintMask(t, s, evenMask(boxAt(0, 0, 12, 12), 15), plainOf(255, 0, 0, 255), mode, 255, s)
		}
		for _, fade := range append([]int{0}, wrongParts...) {
			for _, mode := range allModes {
				checkPaintMask(t, s, evenMask(boxAt(0, 0, 12, 12), 15), plainOf(255, 0, 0, 255), mode, fade, s)
			}
		}
	}
}

// A slope has another colour at each square: along the rows, down the columns, aslant.
func TestPaintMaskOfSlopes(t *testing.T) {
	full := evenMask(boxAt(0, 0, 12, 12), 15)
	gray := func(parts ...int) []impl.Color {
		pix := []impl.Color{}
		for _, part := range parts {
			pix = append(pix, impl.Color{R: part, G: part, B: part, A: 255})
		}
		return pix
	}
	p := impl.Paint{Kind: impl.Slope, First: impl.Color{A: 255}, Last: impl.Color{R: 128, G: 128, B: 128, A: 255}, From: middle(0, 0)}
	p.To = middle(2, 0)
	checkPaintMask(t, evenSurface(4, 2, fullRed), full, p, impl.Over, 255, impl.Surface{W: 4, H: 2, Pix: gray(0, 64, 128, 128, 0, 64, 128, 128)})
	p.To = middle(0, 2)
	checkPaintMask(t, evenSurface(2, 4, fullRed), full, p, impl.Over, 255, impl.Surface{W: 2, H: 4, Pix: gray(0, 0, 64, 64, 128, 128, 128, 128)})
	p.To = middle(2, 2)
	checkPaintMask(t, evenSurface(3, 2, fullRed), full, p, impl.Over, 255, impl.Surface{W: 3, H: 2, Pix: gray(0, 32, 64, 32, 64, 96)})
	for i, p := range rightSlopes() {
		s, mode := fewSurfaces()[i%len(fewSurfaces())], allModes[i%len(allModes)]
		checkPaintMask(t, s, full, p, mode, 255, paintByLibrary(s, full, p, mode, 255))
	}
}

func TestPaintMaskOfPlains(t *testing.T) {
	m := maskByRule(boxAt(-1, -1, 12, 12), func(x int, y int) int { return (x + 5*y) & 15 })
	for i, c := range rightColors() {
		s, mode, p := mottled(2+i%3, 4-i%3, i), allModes[i%len(allModes)], impl.Paint{Kind: impl.Plain, First: c}
		checkPaintMask(t, s, m, p, mode, 255-i, paintByLibrary(s, m, p, mode, 255-i))
	}
}

func TestPaintMaskOnWhatIsNotRight(t *testing.T) {
	m, p := evenMask(boxAt(0, 0, 12, 12), 15), plainOf(255, 0, 0, 255)
	for i, s := range wrongSurfaces() {
		checkPaintMask(t, s, m, p, allModes[i%len(allModes)], 255, s)
	}
	for _, s := range fewWrongSurfaces() {
		for _, mode := range append(allModes, 0, 6) {
			for _, fade := range []int{0, 255, -1, 256} {
				checkPaintMask(t, s, m, p, mode, fade, s)
				checkPaintMask(t, s, impl.Mask{Box: boxAt(0, 0, 1, 1)}, impl.Paint{}, mode, fade, s)
			}
		}
	}
}

func TestPaintMaskByWhatIsNotRight(t *testing.T) {
	s := mottled(4, 3, 8)
	full := evenMask(boxAt(0, 0, 4, 3), 15)
	for i, wrong := range wrongMasks() {
		checkPaintMask(t, s, wrong, plainOf(255, 0, 0, 255), allModes[i%len(allModes)], 255, s)
	}
	for _, wrong := range wrongPaints() {
		for _, mode := range allModes {
			checkPaintMask(t, s, full, wrong, mode, 255, s)
		}
	}
	// Wrong bits outside of the surface are wrong, too.
	beyond := evenMask(boxAt(0, 0, 6, 6), 15)
	beyond.Bits[35] = 16
	checkPaintMask(t, s, beyond, plainOf(255, 0, 0, 255), impl.Over, 255, s)
}

func TestLayOverWrittenOut(t *testing.T) {
	s := impl.Surface{W: 2, H: 1, Pix: []impl.Color{{R: 0, G: 50, B: 200, A: 200}, {}}}
	over := impl.Surface{W: 2, H: 1, Pix: []impl.Color{{R: 100, B: 60, A: 128}, {R: 1, G: 128, B: 254, A: 255}}}
	for _, c := range []struct {
		mode, fade int
		want       []impl.Color
	}{
		{impl.Over, 255, []impl.Color{{R: 100, G: 25, B: 160, A: 228}, over.Pix[1]}},
		{impl.Multiply, 255, []impl.Color{{R: 22, G: 25, B: 160, A: 228}, over.Pix[1]}},
		{impl.Screen, 255, []impl.Color{{R: 100, G: 50, B: 213, A: 228}, over.Pix[1]}},
		{impl.Plus, 255, []impl.Color{{R: 100, G: 50, B: 255, A: 255}, over.Pix[1]}},
		{impl.Out, 255, []impl.Color{{R: 0, G: 25, B: 100, A: 100}, {}}},
		{impl.Over, 128, []impl.Color{{R: 50, G: 37, B: 180, A: 214}, {R: 1, G: 64, B: 127, A: 128}}},
		{impl.Plus, 127, []impl.Color{{R: 50, G: 50, B: 230, A: 255}, {R: 0, G: 64, B: 127, A: 127}}},
		{impl.Over, 0, s.Pix}, {impl.Over, -1, s.Pix}, {impl.Over, 256, s.Pix}, {0, 255, s.Pix}, {6, 255, s.Pix},
	} {
		checkLayOver(t, s, over, c.mode, c.fade, impl.Surface{W: 2, H: 1, Pix: c.want})
	}
}

func TestLayOverOfEachModeAndFade(t *testing.T) {
	for _, mode := range append(slices.Clone(allModes), wrongModes...) {
		for _, fade := range append(slices.Clone(partEdges), wrongParts...) {
			for _, size := range [][2]int{{3, 2}, {2, 3}} {
				s, over := mottled(size[0], size[1], mode&7), mottled(size[0], size[1], fade&255)
				checkLayOver(t, s, over, mode, fade, layByLibrary(s, over, mode, fade))
			}
		}
	}
	for _, s := range fewSurfaces() {
		over := evenSurface(s.W, s.H, fullRed)
		checkLayOver(t, s, over, impl.Over, 255, over)
		checkLayOver(t, s, over, impl.Out, 255, evenSurface(s.W, s.H, impl.Color{}))
		for _, mode := range wrongModes {
			checkLayOver(t, s, over, mode, 255, s)
		}
		for _, fade := range append([]int{0}, wrongParts...) {
			for _, mode := range allModes {
				checkLayOver(t, s, over, mode, fade, s)
			}
		}
	}
}

func TestLayOverOfEachSize(t *testing.T) {
	for w := 1; w <= 12; w++ {
		for h := 1; h <= 12; h++ {
			s, over, mode := mottled(w, h, 2), mottled(w, h, 11), allModes[(w+h)%len(allModes)]
			checkLayOver(t, s, over, mode, 255, layByLibrary(s, over, mode, 255))
			checkLayOver(t, evenSurface(w, h, impl.Color{}), numbered(w, h), impl.Over, 255, numbered(w, h))
		}
	}
}

// Surfaces of another size, those with as many Pix among them.
func TestLayOverOfAnotherSize(t *testing.T) {
	for w := 1; w <= 12; w++ {
		for h := 1; h <= 12; h++ {
			s := mottled(w, h, w)
			for overW := 1; overW <= 12; overW++ {
				for overH := 1; overH <= 12; overH++ {
					if overW != w || overH != h {
						got := impl.LayOver(s, evenSurface(overW, overH, fullRed), impl.Over, 255)
						if !isSurface(got, s) {
							t.Errorf("LayOver of %d by %d and %d by %d = %v, want %v", w, h, overW, overH, got, s)
						}
					}
				}
			}
		}
	}
	s := mottled(4, 3, 9)
	for _, size := range [][2]int{{3, 4}, {5, 3}, {3, 3}, {4, 2}, {4, 4}, {12, 1}, {1, 12}, {2, 6}, {6, 2}, {1, 1}, {12, 12}} {
		for _, mode := range append(allModes, 0, 6) {
			for _, fade := range []int{0, 128, 255, -1, 256} {
				checkLayOver(t, s, evenSurface(size[0], size[1], fullRed), mode, fade, s)
			}
		}
	}
}

func TestLayOverOfWhatIsNotRight(t *testing.T) {
	for i, wrong := range wrongSurfaces() {
		right, mode := fewSurfaces()[i%len(fewSurfaces())], allModes[i%len(allModes)]
		checkLayOver(t, wrong, right, mode, 255, wrong)
		checkLayOver(t, right, wrong, mode, 255, right)
		checkLayOver(t, wrong, wrong, mode, 255, wrong)
	}
	right := mottled(4, 3, 7)
	for _, wrong := range fewWrongSurfaces() {
		for _, mode := range append(allModes, 0, 6) {
			checkLayOver(t, wrong, right, mode, 255, wrong)
			checkLayOver(t, right, wrong, mode, 255, right)
			for _, other := range fewWrongSurfaces() {
				checkLayOver(t, wrong, other, mode, 255, wrong)
			}
		}
	}
	// As wide and high as the right one, with one wrong colour.
	full := evenSurface(4, 3, fullRed)
	for place := range full.Pix {
		wrong := withPix(full, place, impl.Color{R: 255, A: 254})
		checkLayOver(t, right, wrong, impl.Over, 255, right)
		checkLayOver(t, wrong, full, impl.Over, 255, wrong)
	}
}

// Laid over itself, a surface is read and not written.
func TestLayOverItself(t *testing.T) {
	for _, s := range fewSurfaces() {
		before := copyOfSurface(s)
		for _, mode := range allModes {
			want := layByLibrary(before, before, mode, 200)
			got := impl.LayOver(s, s, mode, 200)
			if !isSurface(got, want) || !isSurface(s, before) {
				t.Errorf("LayOver(%v, itself, %d, 200) = %v, want %v; it became %v", before, mode, got, want, s)
			}
			overwrite(got.Pix, fullRed)
			if !isSurface(s, before) {
				t.Errorf("LayOver of %v and itself shares its list", before)
			}
		}
	}
}

func TestSameSurfaceOfWhatIsAlike(t *testing.T) {
	for _, s := range append(fewSurfaces(), wrongSurfaces()...) {
		checkSameSurface(t, s, s, true)
	}
	for w := 1; w <= 12; w++ {
		made, _ := impl.SurfaceNew(w, 13-w)
		checkSameSurface(t, made, evenSurface(w, 13-w, impl.Color{}), true)
	}
}

func TestSameSurfaceOfAnotherSize(t *testing.T) {
	for _, s := range append(fewSurfaces(), fewWrongSurfaces()...) {
		for _, more := range []int{-1, 1, 1 << 32, math.MinInt} {
			wider, higher, both := s, s, s
			wider.W, higher.H, both.W, both.H = s.W+more, s.H+more, s.W+more, s.H-more
			checkSameSurface(t, s, wider, false)
			checkSameSurface(t, s, higher, false)
			checkSameSurface(t, s, both, false)
		}
		turned := s
		turned.W, turned.H = s.H, s.W
		checkSameSurface(t, s, turned, s.W == s.H)
	}
}

func TestSameSurfaceOfOtherPix(t *testing.T) {
	for _, s := range append(fewSurfaces(), surfacesWithWrongPix()[0], surfacesWithWrongPix()[50]) {
		for _, at := range threePlaces(s.Pix) {
			for part := range 4 {
				for _, more := range []int{-1, 1, 256, 1 << 32} {
					c := s.Pix[at]
					*colorPart(&c, part) += more
					checkSameSurface(t, s, withPix(s, at, c), false)
				}
			}
		}
	}
	// Colours of zeros are colours, too.
	checkSameSurface(t, evenSurface(2, 2, impl.Color{}), evenSurface(2, 2, impl.Color{A: 1}), false)
}

func TestSameSurfaceOfAnotherNumberOfPix(t *testing.T) {
	for _, s := range append(fewSurfaces(), mottled(4, 3, 1)) {
		fewer, more, none := copyOfSurface(s), copyOfSurface(s), s
		fewer.Pix, more.Pix, none.Pix = fewer.Pix[:len(fewer.Pix)-1], append(more.Pix, impl.Color{}), nil
		checkSameSurface(t, s, fewer, false)
		checkSameSurface(t, s, more, false)
		checkSameSurface(t, s, none, false)
		checkSameSurface(t, fewer, more, false)
		// What stands behind the list is no part of it.
		if impl.SameSurface(s, impl.Surface{W: s.W, H: s.H, Pix: s.Pix[:len(s.Pix)-1]}) {
			t.Errorf("%v is the same as one Pix fewer of its own room", s)
		}
	}
}

func TestSameSurfaceOfNoPixAndNil(t *testing.T) {
	for _, size := range [][2]int{{0, 0}, {1, 1}, {4, 3}, {-1, 13}, {math.MinInt, math.MaxInt}} {
		empty := impl.Surface{W: size[0], H: size[1], Pix: []impl.Color{}}
		without := impl.Surface{W: size[0], H: size[1]}
		if !impl.SameSurface(empty, without) || !impl.SameSurface(without, empty) || !impl.SameSurface(without, without) || !impl.SameSurface(empty, empty) {
			t.Errorf("%v and %v are not the same", empty, without)
		}
		one := impl.Surface{W: size[0], H: size[1], Pix: []impl.Color{{}}}
		if impl.SameSurface(one, without) || impl.SameSurface(empty, one) {
			t.Errorf("%v and %v are the same", one, without)
		}
	}
}

// Masks, paints, modes and fades, right and wrong ones, one on top of another.
func TestPromise14SurfacesStayRight(t *testing.T) {
	paints := append(rightPaints(), wrongPaints()[:60]...)
	fades := append([]int{255, 200, 100, 255}, wrongParts...)
	modes := append(append(slices.Clone(allModes), allModes...), 0, 6)
	for w := 1; w <= 12; w++ {
		s, ok := impl.SurfaceNew(w, 13-w)
		if !ok {
			t.Fatalf("there is no surface of %d by %d", w, 13-w)
		}
		for i := range 400 {
			m := fewMasks()[i%len(fewMasks())]
			next := impl.PaintMask(s, m, paints[(i*17+w)%len(paints)], modes[i%len(modes)], fades[i%len(fades)])
			checkSurfaceOk(t, next, true)
			laid := impl.LayOver(next, s, modes[(i*5+w)%len(modes)], fades[(i*3)%len(fades)])
			checkSurfaceOk(t, laid, true)
			if laid.W != w || laid.H != 13-w {
				t.Errorf("a surface of %d by %d became %d by %d", w, 13-w, laid.W, laid.H)
			}
			s = laid
		}
	}
}

func TestPromise14LaidColoursOnLaidColours(t *testing.T) {
	for _, mode := range allModes {
		for _, s := range fewSurfaces() {
			for seed := range 12 {
				for _, fade := range partEdges {
					checkSurfaceOk(t, impl.LayOver(s, mottled(s.W, s.H, seed), mode, fade), true)
				}
			}
			for _, p := range rightPaints() {
				checkSurfaceOk(t, impl.PaintMask(s, maskFrom(0, 0, "18f", "73f", "abf"), p, mode, 254), true)
			}
		}
	}
}

func TestPromise14SquaresWithoutBitsStay(t *testing.T) {
	masks := append(rightMasks(), fewMasks()...)
	for i, s := range fewSurfaces() {
		for j, m := range masks {
			for k, mode := range allModes {
				p := rightPaints()[(i+3*j+7*k)%len(rightPaints())]
				got := impl.PaintMask(s, m, p, mode, 255)
				checkStayed(t, s, m, got)
			}
		}
	}
}

func checkStayed(t *testing.T, s impl.Surface, m impl.Mask, got impl.Surface) {
	t.Helper()
	for y := range s.H {
		for x := range s.W {
			if bitsByHand(m, x, y) == 0 && impl.PixelAt(got, x, y) != s.Pix[y*s.W+x] {
				t.Errorf("the square %d, %d without bits of %v became %v", x, y, s, impl.PixelAt(got, x, y))
			}
		}
	}
}

// An answer is written over, with all of its room: later answers of the same are as they were.
func TestSurfacesKeepNothing(t *testing.T) {
	m, p := maskFrom(0, 0, "f37", "e80"), slopeOfSquares(0, 0, 2, 1)
	for _, s := range append(fewSurfaces(), fewWrongSurfaces()...) {
		over := evenSurface(5, 3, impl.Color{R: 9, A: 100})
		painted, laid := impl.PaintMask(s, m, p, impl.Over, 255), impl.LayOver(s, over, impl.Over, 255)
		paintedBefore, laidBefore := copyOfSurface(painted), copyOfSurface(laid)
		overwrite(painted.Pix, fullRed)
		if !isSurface(laid, laidBefore) {
			t.Errorf("what was laid shares memory with what was painted: %v", laid)
		}
		overwrite(laid.Pix, fullRed)
		checkPaintMask(t, s, m, p, impl.Over, 255, paintedBefore)
		checkLayOver(t, s, over, impl.Over, 255, laidBefore)
	}
}

// What is answered as it is shares no room with what was handed in, also where no Pix stands in that room.
func TestSurfacesAsTheyAreAreNewMemory(t *testing.T) {
	for _, count := range []int{0, 1, 5, 6} {
		room := slices.Clone(mottled(3, 3, 4).Pix)
		before := slices.Clone(room)
		s := impl.Surface{W: 3, H: 2, Pix: room[:count]}
		for _, same := range []impl.Surface{impl.PaintMask(s, impl.Mask{}, impl.Paint{}, 0, 0), impl.LayOver(s, impl.Surface{}, 0, 0), impl.LayOver(s, s, 0, 0)} {
			if !isSurface(same, s) {
				t.Errorf("%v became %v", s, same)
			}
			overwrite(append(same.Pix, fullRed), fullRed)
			overwrite(same.Pix, fullRed)
			if !slices.Equal(room, before) {
				t.Errorf("%d Pix are shared: the room became %v", count, room)
			}
		}
	}
}
