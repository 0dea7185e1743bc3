package tests

import (
	"math"
	"testing"

	"loop.example/g00190/impl"
)

var allModes = []int{impl.Over, impl.Multiply, impl.Screen, impl.Plus, impl.Out}

var wrongModes = []int{math.MinInt, math.MinInt + 1, -1 << 32, -5, -2, -1, 0, 6, 7, 255, 1 << 32, 1<<32 + 1, 1<<32 + 5, math.MaxInt - 1, math.MaxInt}

var wrongCounts = []int{math.MinInt, math.MinInt + 1, -1 << 32, -4, -2, -1, 5, 6, 8, 255, 1 << 32, 1<<32 + 4, math.MaxInt - 1, math.MaxInt}

var partEdges = []int{0, 1, 127, 128, 254, 255}

// Of parts at every edge, each at most A, which is at an edge too, or between them.
func laidColors() []impl.Color {
	colors := []impl.Color{}
	for _, a := range []int{0, 1, 2, 3, 100, 127, 128, 200, 254, 255} {
		for i, n := range partEdges {
			next, last := partEdges[(i+1)%len(partEdges)], partEdges[(i+4)%len(partEdges)]
			colors = append(colors, impl.Color{R: min(n, a), G: min(next, a), B: min(last, a), A: a})
			colors = append(colors, impl.Color{R: min(n/3, a), G: a, B: max(a-n, 0), A: a})
		}
	}
	return colors
}

// Right colours that are not laid: one part, or several, by one and by more above A.
func colorsAboveA() []impl.Color {
	colors := []impl.Color{{R: 255}, {G: 255}, {B: 255}, {R: 1}, {G: 1}, {B: 1}, {R: 255, G: 255, B: 255, A: 254}, {R: 1, G: 1, B: 1}}
	for place := range 3 {
		for _, a := range []int{0, 1, 127, 128, 253, 254} {
			for _, above := range []int{a + 1, 255} {
				for _, others := range []int{0, a} {
					c := impl.Color{R: others, G: others, B: others, A: a}
					*colorPart(&c, place) = above
					colors = append(colors, c)
				}
			}
		}
	}
	return colors
}

func notLaid() []impl.Color {
	return append(colorsAboveA(), wrongColors()...)
}

func lessenedByLibrary(c impl.Color, times int, by int) impl.Color {
	for place := range 4 {
		part := colorPart(&c, place)
		*part = roundByLibrary(*part*times, by)
	}
	return c
}

// One part of two laid colours, s and d with the A of each, as the document's words have it.
func blendedPart(mode int, s int, sA int, d int, dA int) int {
	part := 0
	switch mode {
	case impl.Over:
		part = s + roundByLibrary(d*(255-sA), 255)
	case impl.Multiply:
		part = roundByLibrary(s*d+s*(255-dA)+d*(255-sA), 255)
	case impl.Screen:
		part = s + d - roundByLibrary(s*d, 255)
	case impl.Plus:
		part = s + d
	case impl.Out:
		part = roundByLibrary(d*(255-sA), 255)
	}
	return min(part, 255)
}

func blendByLibrary(mode int, s impl.Color, d impl.Color) impl.Color {
	var c impl.Color
	for place := range 4 {
		*colorPart(&c, place) = blendedPart(mode, *colorPart(&s, place), s.A, *colorPart(&d, place), d.A)
	}
	return c
}

func checkLaidOk(t *testing.T, c impl.Color, want bool) {
	t.Helper()
	if got := impl.LaidOk(c); got != want {
		t.Errorf("LaidOk(%v) = %v, want %v", c, got, want)
	}
}

func checkThin(t *testing.T, c impl.Color, count int, want impl.Color) {
	t.Helper()
	if got := impl.Thin(c, count); got != want {
		t.Errorf("Thin(%v, %d) = %v, want %v", c, count, got, want)
	}
}

func checkFade(t *testing.T, c impl.Color, n int, want impl.Color) {
	t.Helper()
	if got := impl.Fade(c, n); got != want {
		t.Errorf("Fade(%v, %d) = %v, want %v", c, n, got, want)
	}
}

func checkBlend(t *testing.T, mode int, s impl.Color, d impl.Color, want impl.Color) {
	t.Helper()
	if got := impl.Blend(mode, s, d); got != want {
		t.Errorf("Blend(%d, %v, %v) = %v, want %v", mode, s, d, got, want)
	}
}

func checkIsNoMore(t *testing.T, what string, c impl.Color, than impl.Color) {
	t.Helper()
	for place := range 4 {
		if *colorPart(&c, place) > *colorPart(&than, place) {
			t.Errorf("%s: %v is more than %v", what, c, than)
		}
	}
}

func TestBlendConstants(t *testing.T) {
	if impl.Over != 1 || impl.Multiply != 2 || impl.Screen != 3 || impl.Plus != 4 || impl.Out != 5 {
		t.Errorf("the modes are %v, want 1 to 5", allModes)
	}
}

func TestLaidOkAroundA(t *testing.T) {
	for place := range 3 {
		for a := range 256 {
			for _, others := range []int{0, a / 2, a} {
				c := impl.Color{R: others, G: others, B: others, A: a}
				checkLaidOk(t, c, true)
				for _, n := range []int{a - 1, a, a + 1} {
					*colorPart(&c, place) = n
					checkLaidOk(t, c, n >= 0 && n <= a)
				}
			}
		}
	}
}

func TestLaidOkOfEachA(t *testing.T) {
	for _, a := range []int{0, 1, 127, 128, 254, 255} {
		checkLaidOk(t, impl.Color{A: a}, true)
		checkLaidOk(t, impl.Color{R: a, G: a, B: a, A: a}, true)
	}
	// Parts that are not above A are not right for that.
	for _, a := range wrongParts {
		checkLaidOk(t, impl.Color{A: a}, false)
		checkLaidOk(t, impl.Color{R: a, G: a, B: a, A: a}, false)
		checkLaidOk(t, impl.Color{R: 10, G: 20, B: 30, A: a}, false)
	}
}

func TestLaidOkOfWholes(t *testing.T) {
	checkLaidOk(t, impl.Color{}, true)
	for _, c := range laidColors() {
		checkLaidOk(t, c, true)
	}
	for _, c := range rightColors() {
		checkLaidOk(t, c, max(c.R, c.G, c.B) <= c.A)
		checkLaidOk(t, impl.Laid(c), true)
	}
	for _, c := range notLaid() {
		checkLaidOk(t, c, false)
	}
}

func TestThinWrittenOut(t *testing.T) {
	c := impl.Color{R: 1, G: 2, B: 3, A: 255}
	odd := impl.Color{R: 5, G: 6, B: 7, A: 10}
	full := impl.Color{R: 255, G: 127, B: 128, A: 255}
	for _, x := range []struct {
		color impl.Color
		count int
		want  impl.Color
	}{
		{c, 0, impl.Color{}},
		{c, 1, impl.Color{R: 0, G: 1, B: 1, A: 64}},
		{c, 2, impl.Color{R: 1, G: 1, B: 2, A: 128}},
		{c, 3, impl.Color{R: 1, G: 2, B: 2, A: 191}},
		{c, 4, c},
		{odd, 1, impl.Color{R: 1, G: 2, B: 2, A: 3}},
		{odd, 2, impl.Color{R: 3, G: 3, B: 4, A: 5}},
		{odd, 3, impl.Color{R: 4, G: 5, B: 5, A: 8}},
		{full, 1, impl.Color{R: 64, G: 32, B: 32, A: 64}},
		{full, 2, impl.Color{R: 128, G: 64, B: 64, A: 128}},
		{full, 3, impl.Color{R: 191, G: 95, B: 96, A: 191}},
		{full, 4, full},
		{impl.Color{}, 3, impl.Color{}},
	} {
		checkThin(t, x.color, x.count, x.want)
	}
}

func TestThinOfEachPartByEachCount(t *testing.T) {
	for n := range 256 {
		for count := range 5 {
			c := impl.Color{R: n, G: n / 2, B: n ^ (n & 85), A: n}
			checkThin(t, c, count, lessenedByLibrary(c, count, 4))
			checkIsLaid(t, "Thin", impl.Thin(c, count))
			checkIsNoMore(t, "Thin", impl.Thin(c, count), c)
		}
	}
	for _, c := range laidColors() {
		checkThin(t, c, 0, impl.Color{})
		checkThin(t, c, 4, c)
		for count := range 5 {
			checkThin(t, c, count, lessenedByLibrary(c, count, 4))
			checkIsLaid(t, "Thin", impl.Thin(c, count))
		}
	}
}

func TestThinOfWrongCounts(t *testing.T) {
	for _, c := range append(laidColors(), notLaid()...) {
		for _, count := range wrongCounts {
			checkThin(t, c, count, impl.Color{})
		}
	}
}

func TestThinOfWhatIsNotLaid(t *testing.T) {
	for _, c := range notLaid() {
		for count := range 5 {
			checkThin(t, c, count, impl.Color{})
		}
	}
}

func TestFadeWrittenOut(t *testing.T) {
	c := impl.Color{R: 1, G: 128, B: 254, A: 255}
	half := impl.Color{R: 127, G: 2, B: 100, A: 128}
	for _, x := range []struct {
		color impl.Color
		n     int
		want  impl.Color
	}{
		{c, 0, impl.Color{}},
		{c, 1, impl.Color{R: 0, G: 1, B: 1, A: 1}},
		{c, 127, impl.Color{R: 0, G: 64, B: 127, A: 127}},
		{c, 128, impl.Color{R: 1, G: 64, B: 127, A: 128}},
		{c, 254, impl.Color{R: 1, G: 127, B: 253, A: 254}},
		{c, 255, c},
		{half, 0, impl.Color{}},
		{half, 1, impl.Color{R: 0, G: 0, B: 0, A: 1}},
		{half, 127, impl.Color{R: 63, G: 1, B: 50, A: 64}},
		{half, 128, impl.Color{R: 64, G: 1, B: 50, A: 64}},
		{half, 254, impl.Color{R: 127, G: 2, B: 100, A: 127}},
		{half, 255, half},
		{impl.Color{}, 128, impl.Color{}},
	} {
		checkFade(t, x.color, x.n, x.want)
	}
}

func TestFadeOfEachPartByEachN(t *testing.T) {
	for part := range 256 {
		for n := range 256 {
			c := impl.Color{R: part, G: part / 2, B: part ^ (part & 85), A: part}
			checkFade(t, c, n, lessenedByLibrary(c, n, 255))
			checkIsLaid(t, "Fade", impl.Fade(c, n))
			checkIsNoMore(t, "Fade", impl.Fade(c, n), c)
		}
	}
	for _, c := range laidColors() {
		checkFade(t, c, 0, impl.Color{})
		checkFade(t, c, 255, c)
		for _, n := range partEdges {
			checkFade(t, c, n, lessenedByLibrary(c, n, 255))
			checkIsLaid(t, "Fade", impl.Fade(c, n))
		}
	}
}

func TestFadeOfWrongNumbers(t *testing.T) {
	for _, c := range append(laidColors(), notLaid()...) {
		for _, n := range wrongParts {
			checkFade(t, c, n, impl.Color{})
		}
	}
}

func TestFadeOfWhatIsNotLaid(t *testing.T) {
	for _, c := range notLaid() {
		for _, n := range partEdges {
			checkFade(t, c, n, impl.Color{})
		}
	}
}

func TestBlendWrittenOut(t *testing.T) {
	s, d := impl.Color{R: 100, G: 0, B: 60, A: 128}, impl.Color{R: 0, G: 50, B: 200, A: 200}
	full := impl.Color{R: 10, G: 128, B: 255, A: 255}
	for _, c := range []struct {
		mode       int
		s, d, want impl.Color
	}{
		{impl.Over, s, d, impl.Color{R: 100, G: 25, B: 160, A: 228}},
		{impl.Multiply, s, d, impl.Color{R: 22, G: 25, B: 160, A: 228}},
		{impl.Screen, s, d, impl.Color{R: 100, G: 50, B: 213, A: 228}},
		{impl.Plus, s, d, impl.Color{R: 100, G: 50, B: 255, A: 255}},
		{impl.Out, s, d, impl.Color{R: 0, G: 25, B: 100, A: 100}},
		{impl.Over, d, s, impl.Color{R: 22, G: 50, B: 213, A: 228}},
		{impl.Multiply, d, s, impl.Color{R: 22, G: 25, B: 160, A: 228}},
		{impl.Screen, d, s, impl.Color{R: 100, G: 50, B: 213, A: 228}},
		{impl.Plus, d, s, impl.Color{R: 100, G: 50, B: 255, A: 255}},
		{impl.Out, d, s, impl.Color{R: 22, G: 0, B: 13, A: 28}},
		{impl.Over, s, full, impl.Color{R: 105, G: 64, B: 187, A: 255}},
		{impl.Multiply, s, full, impl.Color{R: 9, G: 64, B: 187, A: 255}},
		{impl.Screen, s, full, impl.Color{R: 106, G: 128, B: 255, A: 255}},
		{impl.Plus, s, full, impl.Color{R: 110, G: 128, B: 255, A: 255}},
		{impl.Out, s, full, impl.Color{R: 5, G: 64, B: 127, A: 127}},
		{impl.Over, full, s, full},
		{impl.Multiply, full, s, impl.Color{R: 9, G: 64, B: 187, A: 255}},
		{impl.Screen, full, s, impl.Color{R: 106, G: 128, B: 255, A: 255}},
		{impl.Plus, full, s, impl.Color{R: 110, G: 128, B: 255, A: 255}},
		{impl.Out, full, s, impl.Color{}},
	} {
		checkBlend(t, c.mode, c.s, c.d, c.want)
	}
}

// By 255 no whole number is left a half; what is left is just below one, or just above.
func TestBlendAroundHalves(t *testing.T) {
	for _, c := range []struct {
		mode, s, d, want int
	}{
		{impl.Multiply, 127, 1, 0}, {impl.Multiply, 1, 127, 0}, {impl.Multiply, 128, 1, 1}, {impl.Multiply, 1, 128, 1},
		{impl.Multiply, 127, 3, 1}, {impl.Multiply, 128, 3, 2}, {impl.Multiply, 254, 254, 253}, {impl.Multiply, 255, 255, 255},
		{impl.Screen, 127, 1, 128}, {impl.Screen, 1, 127, 128}, {impl.Screen, 128, 1, 128}, {impl.Screen, 1, 128, 128},
		{impl.Screen, 127, 3, 129}, {impl.Screen, 128, 3, 129}, {impl.Screen, 254, 254, 255}, {impl.Screen, 255, 255, 255},
	} {
		s, d := impl.Color{R: c.s, B: c.s, A: 255}, impl.Color{G: c.d, B: c.d, A: 255}
		if got := impl.Blend(c.mode, s, d).B; got != c.want {
			t.Errorf("Blend(%d, %v, %v).B = %d, want %d", c.mode, s, d, got, c.want)
		}
		checkBlend(t, c.mode, s, d, blendByLibrary(c.mode, s, d))
	}
}

func TestBlendPast255(t *testing.T) {
	full := impl.Color{R: 255, G: 255, B: 255, A: 255}
	for _, mode := range []int{impl.Over, impl.Multiply, impl.Screen, impl.Plus} {
		checkBlend(t, mode, full, full, full)
	}
	for _, c := range []struct{ a, b, want int }{{127, 127, 254}, {127, 128, 255}, {128, 127, 255}, {128, 128, 255}, {1, 254, 255}, {1, 255, 255}, {254, 2, 255}, {255, 255, 255}} {
		for place := range 3 {
			s, d, want := impl.Color{A: c.a}, impl.Color{A: c.b}, impl.Color{A: c.want}
			*colorPart(&s, place), *colorPart(&d, place), *colorPart(&want, place) = c.a, c.b, c.want
			checkBlend(t, impl.Plus, s, d, want)
		}
	}
	// A goes past it, where the others don't.
	checkBlend(t, impl.Plus, impl.Color{R: 100, G: 1, A: 200}, impl.Color{R: 100, B: 7, A: 200}, impl.Color{R: 200, G: 1, B: 7, A: 255})
}

func TestBlendOfClearAndFull(t *testing.T) {
	ends := []impl.Color{{}, {A: 255}, {R: 255, G: 255, B: 255, A: 255}, {R: 1, G: 127, B: 128, A: 255}, {R: 254, G: 255, A: 255}}
	for _, mode := range allModes {
		checkBlend(t, mode, impl.Color{}, impl.Color{}, impl.Color{})
		for _, s := range append(ends, laidColors()...) {
			for _, d := range append(ends, laidColors()...) {
				checkBlend(t, mode, s, d, blendByLibrary(mode, s, d))
			}
		}
	}
}

func TestBlendOfEachTwoAs(t *testing.T) {
	for _, mode := range allModes {
		for sA := range 256 {
			for dA := range 256 {
				s, d := impl.Color{R: sA, G: sA / 2, B: sA / 3, A: sA}, impl.Color{R: dA / 2, G: dA, B: dA * 3 / 4, A: dA}
				checkBlend(t, mode, s, d, blendByLibrary(mode, s, d))
			}
		}
	}
}

func TestBlendOfWrongModes(t *testing.T) {
	colors := append(laidColors(), notLaid()...)
	for _, mode := range wrongModes {
		for i, d := range colors {
			checkBlend(t, mode, colors[(i*7+3)%len(colors)], d, d)
			checkBlend(t, mode, impl.Color{R: 255, A: 255}, d, d)
			checkBlend(t, mode, impl.Color{}, d, d)
		}
	}
}

func TestBlendOfWhatIsNotLaid(t *testing.T) {
	few := []impl.Color{{}, {A: 255}, {R: 1, G: 2, B: 3, A: 200}, {R: 255, G: 255, B: 255, A: 255}}
	for _, mode := range allModes {
		for i, wrong := range notLaid() {
			for _, right := range few {
				checkBlend(t, mode, wrong, right, right)
				checkBlend(t, mode, right, wrong, wrong)
			}
			other := notLaid()[(i*5+2)%len(notLaid())]
			checkBlend(t, mode, other, wrong, wrong)
			checkBlend(t, mode, wrong, wrong, wrong)
		}
	}
}

func TestPromise13BlendsKeepColoursLaid(t *testing.T) {
	for _, mode := range allModes {
		for sA := range 256 {
			for dA := range 256 {
				s, d := impl.Color{R: sA, G: max(sA-1, 0), B: sA / 2, A: sA}, impl.Color{R: dA, G: dA / 2, B: max(dA-1, 0), A: dA}
				got := impl.Blend(mode, s, d)
				checkIsLaid(t, "Blend", got)
				if !impl.LaidOk(got) {
					t.Errorf("Blend(%d, %v, %v) = %v is not LaidOk", mode, s, d, got)
				}
			}
		}
		for _, s := range laidColors() {
			for _, d := range laidColors() {
				checkLaidOk(t, impl.Blend(mode, s, d), true)
			}
		}
	}
}

func TestPromise13WhatIsClearChangesNothing(t *testing.T) {
	for _, d := range append(laidColors(), notLaid()...) {
		for _, mode := range allModes {
			checkBlend(t, mode, impl.Color{}, d, d)
		}
	}
	// Nor does what is clear below.
	for _, s := range laidColors() {
		for _, mode := range []int{impl.Over, impl.Multiply, impl.Screen, impl.Plus} {
			checkBlend(t, mode, s, impl.Color{}, s)
		}
		checkBlend(t, impl.Out, s, impl.Color{}, impl.Color{})
	}
}

func TestPromise13WhatIsFullCovers(t *testing.T) {
	for n := range 256 {
		full := impl.Color{R: n, G: 255 - n, B: n ^ 85, A: 255}
		for _, d := range laidColors() {
			checkBlend(t, impl.Over, full, d, full)
			checkBlend(t, impl.Out, full, d, impl.Color{})
		}
	}
}

func TestBlendsKeepNothingAndLeaveWhatIsHandedIn(t *testing.T) {
	colors := append(laidColors(), notLaid()...)
	answers := []impl.Color{}
	for i, d := range colors {
		s := colors[len(colors)-1-i]
		sBefore, dBefore := s, d
		for _, mode := range allModes {
			answers = append(answers, impl.Blend(mode, s, d), impl.Thin(d, mode-1), impl.Fade(d, 50*mode))
			impl.LaidOk(d)
		}
		if s != sBefore || d != dBefore {
			t.Errorf("%v and %v became %v and %v", sBefore, dBefore, s, d)
		}
	}
	for i := len(colors) - 1; i >= 0; i-- {
		for j, mode := range allModes {
			at := (i*len(allModes) + j) * 3
			checkBlend(t, mode, colors[len(colors)-1-i], colors[i], answers[at])
			checkThin(t, colors[i], mode-1, answers[at+1])
			checkFade(t, colors[i], 50*mode, answers[at+2])
		}
	}
}
