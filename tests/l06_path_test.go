package tests

import (
	"math"
	"regexp"
	"slices"
	"strconv"
	"strings"
	"testing"

	"loop.example/g00190/impl"
)

// So many points, no two alike, some of them below 0.
func dots(n int) []impl.Point {
	list := []impl.Point{}
	for i := range n {
		list = append(list, impl.Point{X: 7*i - 20, Y: 300 - 31*i})
	}
	return list
}

func samePath(a impl.Path, b impl.Path) bool {
	return slices.Equal(a.Verbs, b.Verbs) && slices.Equal(a.Points, b.Points)
}

func copyOfPath(p impl.Path) impl.Path {
	return impl.Path{Verbs: slices.Clone(p.Verbs), Points: slices.Clone(p.Points)}
}

// So many of one verb behind a MoveTo.
func movedThen(verb int, times int) []int {
	return append([]int{impl.MoveTo}, slices.Repeat([]int{verb}, times)...)
}

var lettersOfVerbs = map[int]string{1: "M", 2: "L", 3: "Q", 4: "C", 5: "Z"}

var (
	verbOrder  = regexp.MustCompile(`^(?:M[MLQC]*Z?)*$`)
	pathForm   = regexp.MustCompile(`^(?:[ML](?: N N)|Q(?: N N){2}|C(?: N N){3}|Z)(?: (?:[ML](?: N N)|Q(?: N N){2}|C(?: N N){3}|Z))*$`)
	numberForm = regexp.MustCompile(`(?:^| )(?:0|-?[1-9][0-9]*)\b`)
)

// Whether a path is right, by its letters alone.
func rightByLetters(p impl.Path) bool {
	letters := ""
	for _, verb := range p.Verbs {
		letter, ok := lettersOfVerbs[verb]
		if !ok {
			return false
		}
		letters += letter
	}
	need := strings.Count(letters, "M") + strings.Count(letters, "L") + 2*strings.Count(letters, "Q") + 3*strings.Count(letters, "C")
	for _, place := range p.Points {
		if !withinFar(place.X) || !withinFar(place.Y) {
			return false
		}
	}
	return verbOrder.MatchString(letters) && len(letters) <= 24 && need <= 24 && need == len(p.Points)
}

// Whether a text is a right path's, by the form of its words.
func isPathByForm(text string) bool {
	if text == "" {
		return true
	}
	if strings.Contains(text, "N") || !pathForm.MatchString(numberForm.ReplaceAllString(text, " N")) {
		return false
	}
	letters, numbers := "", 0
	for _, word := range strings.Split(text, " ") {
		if strings.Contains("MLQCZ", word) {
			letters += word
			continue
		}
		n, err := strconv.Atoi(word)
		if err != nil || !withinFar(n) {
			return false
		}
		numbers++
	}
	return verbOrder.MatchString(letters) && len(letters) <= 24 && numbers <= 48
}

func checkPathOk(t *testing.T, p impl.Path, want bool) {
	t.Helper()
	before := copyOfPath(p)
	if got := impl.PathOk(p); got != want {
		t.Errorf("PathOk(%v) = %v, want %v", p, got, want)
	}
	if !samePath(p, before) {
		t.Errorf("PathOk(%v) wrote into its path: %v", before, p)
	}
}

func checkPathText(t *testing.T, p impl.Path, want string, wantOk bool) {
	t.Helper()
	before := copyOfPath(p)
	if got, ok := impl.PathText(p); got != want || ok != wantOk {
		t.Errorf("PathText(%v) = %q, %v, want %q, %v", p, got, ok, want, wantOk)
	}
	if !samePath(p, before) {
		t.Errorf("PathText(%v) wrote into its path: %v", before, p)
	}
}

func checkParsePath(t *testing.T, text string, want impl.Path, wantOk bool) {
	t.Helper()
	if got, ok := impl.ParsePath(text); !samePath(got, want) || ok != wantOk {
		t.Errorf("ParsePath(%.200q) = %v, %v, want %v, %v", text, got, ok, want, wantOk)
	}
}

func checkMovePath(t *testing.T, m impl.Mat, p impl.Path, want impl.Path) {
	t.Helper()
	before := copyOfPath(p)
	if got := impl.MovePath(m, p); !samePath(got, want) {
		t.Errorf("MovePath(%v, %v) = %v, want %v", m, p, got, want)
	}
	if !samePath(p, before) {
		t.Errorf("MovePath(%v, %v) wrote into its path: %v", m, before, p)
	}
}

func checkRectPath(t *testing.T, b impl.Box, want impl.Path) {
	t.Helper()
	if got := impl.RectPath(b); !samePath(got, want) {
		t.Errorf("RectPath(%v) = %v, want %v", b, got, want)
	}
}

// Each with the text that is written by hand.
func writtenPaths() []struct {
	text string
	path impl.Path
} {
	const far = impl.Far
	return []struct {
		text string
		path impl.Path
	}{
		{"", impl.Path{}},
		{"M 0 0", impl.Path{Verbs: []int{1}, Points: []impl.Point{{}}}},
		{"M -1 10", impl.Path{Verbs: []int{1}, Points: []impl.Point{{X: -1, Y: 10}}}},
		{"M 10 -1", impl.Path{Verbs: []int{1}, Points: []impl.Point{{X: 10, Y: -1}}}},
		{"M 1 2 Z", impl.Path{Verbs: []int{1, 5}, Points: []impl.Point{{X: 1, Y: 2}}}},
		{"M 1 2 M 3 4", impl.Path{Verbs: []int{1, 1}, Points: []impl.Point{{X: 1, Y: 2}, {X: 3, Y: 4}}}},
		{"M 1 2 L 3 -4 Z", impl.Path{Verbs: []int{1, 2, 5}, Points: []impl.Point{{X: 1, Y: 2}, {X: 3, Y: -4}}}},
		{"M 1 2 Q 3 4 5 6", impl.Path{Verbs: []int{1, 3}, Points: []impl.Point{{X: 1, Y: 2}, {X: 3, Y: 4}, {X: 5, Y: 6}}}},
		{"M 1 2 C 3 4 5 6 7 8", impl.Path{Verbs: []int{1, 4}, Points: []impl.Point{{X: 1, Y: 2}, {X: 3, Y: 4}, {X: 5, Y: 6}, {X: 7, Y: 8}}}},
		{"M 1 2 Z M 3 4 Z", impl.Path{Verbs: []int{1, 5, 1, 5}, Points: []impl.Point{{X: 1, Y: 2}, {X: 3, Y: 4}}}},
		{"M 1 1 L 2 2 Q 3 3 4 4 C 5 5 6 6 7 7 Z M 8 8 L 9 9", impl.Path{
			Verbs:  []int{1, 2, 3, 4, 5, 1, 2},
			Points: []impl.Point{{X: 1, Y: 1}, {X: 2, Y: 2}, {X: 3, Y: 3}, {X: 4, Y: 4}, {X: 5, Y: 5}, {X: 6, Y: 6}, {X: 7, Y: 7}, {X: 8, Y: 8}, {X: 9, Y: 9}},
		}},
		{"M 8388608 -8388608 L -8388608 8388608", impl.Path{Verbs: []int{1, 2}, Points: []impl.Point{{X: far, Y: -far}, {X: -far, Y: far}}}},
	}
}

// Right paths of every kind and up to the limits, no two alike.
func rightPaths() []impl.Path {
	paths := []impl.Path{}
	for _, w := range writtenPaths() {
		paths = append(paths, w.path)
	}
	for _, verbs := range [][]int{
		movedThen(impl.LineTo, 23), movedThen(impl.MoveTo, 23), movedThen(impl.QuadTo, 11), movedThen(impl.CubicTo, 7),
		append(movedThen(impl.CubicTo, 7), impl.LineTo, impl.LineTo), append(movedThen(impl.QuadTo, 11), impl.LineTo),
		append(movedThen(impl.LineTo, 22), impl.Close), slices.Repeat([]int{impl.MoveTo, impl.Close}, 12),
		slices.Repeat([]int{impl.MoveTo, impl.CubicTo, impl.Close}, 6),
	} {
		paths = append(paths, impl.Path{Verbs: verbs, Points: dots(pointsOf(verbs))})
	}
	return paths
}

func pointsOf(verbs []int) int {
	takes := map[int]int{1: 1, 2: 1, 3: 2, 4: 3}
	sum := 0
	for _, verb := range verbs {
		sum += takes[verb]
	}
	return sum
}

// Each not right in a way of its own.
func wrongPaths() []impl.Path {
	paths := []impl.Path{
		{Points: dots(1)}, {Points: dots(24)},
		{Verbs: []int{1}}, {Verbs: []int{1}, Points: dots(2)}, {Verbs: []int{1, 4}, Points: dots(3)}, {Verbs: []int{1, 4}, Points: dots(5)},
		{Verbs: []int{2}, Points: dots(1)}, {Verbs: []int{3}, Points: dots(2)}, {Verbs: []int{4}, Points: dots(3)}, {Verbs: []int{5}},
		{Verbs: []int{1, 5, 2}, Points: dots(2)}, {Verbs: []int{1, 5, 3}, Points: dots(3)}, {Verbs: []int{1, 5, 4}, Points: dots(4)},
		{Verbs: []int{1, 5, 5}, Points: dots(1)}, {Verbs: []int{1, 2, 5, 2}, Points: dots(3)},
		{Verbs: []int{0}}, {Verbs: []int{6}}, {Verbs: []int{1, 0}, Points: dots(1)}, {Verbs: []int{1, 6, 1}, Points: dots(2)},
		{Verbs: []int{1, -1}, Points: dots(1)}, {Verbs: []int{1, 2, 6}, Points: dots(1)}, {Verbs: []int{1, 0, 2, 2}, Points: dots(2)},
		{Verbs: []int{1, math.MinInt}}, {Verbs: []int{1, math.MaxInt}}, {Verbs: []int{1, 1 + 1<<32}, Points: dots(2)},
		{Verbs: movedThen(impl.LineTo, 24), Points: dots(25)}, {Verbs: movedThen(impl.CubicTo, 8), Points: dots(25)},
		{Verbs: append(slices.Repeat([]int{impl.MoveTo, impl.Close}, 12), impl.MoveTo), Points: dots(13)},
		{Verbs: movedThen(impl.LineTo, 200), Points: dots(201)},
	}
	for _, wrong := range wrongPoints() {
		for place := range 3 {
			points := dots(3)
			points[place] = wrong
			paths = append(paths, impl.Path{Verbs: movedThen(impl.LineTo, 2), Points: points})
		}
	}
	return paths
}

func TestPathConstants(t *testing.T) {
	got := []int{impl.MaxPoints, impl.MoveTo, impl.LineTo, impl.QuadTo, impl.CubicTo, impl.Close}
	if want := []int{24, 1, 2, 3, 4, 5}; !slices.Equal(got, want) {
		t.Errorf("constants %v, want %v", got, want)
	}
}

func TestNeedOf(t *testing.T) {
	for _, c := range [][2]int{
		{impl.MoveTo, 1}, {impl.LineTo, 1}, {impl.QuadTo, 2}, {impl.CubicTo, 3}, {impl.Close, 0},
		{0, -1}, {6, -1}, {7, -1}, {-1, -1}, {-2, -1}, {-5, -1}, {1 + 1<<32, -1}, {5 + 1<<8, -1},
		{math.MinInt, -1}, {math.MinInt + 1, -1}, {math.MaxInt, -1}, {math.MaxInt - 1, -1},
	} {
		if got := impl.NeedOf(c[0]); got != c[1] {
			t.Errorf("NeedOf(%d) = %d, want %d", c[0], got, c[1])
		}
	}
}

func TestPathOkOfWhatIsRight(t *testing.T) {
	checkPathOk(t, impl.Path{}, true)
	checkPathOk(t, impl.Path{Verbs: []int{}, Points: []impl.Point{}}, true)
	for _, p := range rightPaths() {
		checkPathOk(t, p, true)
	}
}

func TestPathOkOfWhatIsWrong(t *testing.T) {
	for _, p := range wrongPaths() {
		checkPathOk(t, p, false)
	}
}

func TestPathOkOneLessAndOneMore(t *testing.T) {
	for _, p := range rightPaths() {
		if n := len(p.Points); n > 0 {
			checkPathOk(t, impl.Path{Verbs: p.Verbs, Points: p.Points[:n-1]}, false)
		}
		checkPathOk(t, impl.Path{Verbs: p.Verbs, Points: append(slices.Clone(p.Points), impl.Point{})}, false)
	}
}

// The limit of the verbs and that of the points, each by itself.
func TestPathOkAtItsLimits(t *testing.T) {
	for n := 20; n < 30; n++ {
		closed := slices.Repeat([]int{impl.MoveTo, impl.Close}, 15)[:n]
		checkPathOk(t, impl.Path{Verbs: closed, Points: dots((n + 1) / 2)}, n <= 24)
		curves := append(movedThen(impl.CubicTo, 6), slices.Repeat([]int{impl.LineTo}, n-19)...)
		checkPathOk(t, impl.Path{Verbs: curves, Points: dots(n)}, n <= 24)
		checkPathOk(t, impl.Path{Verbs: movedThen(impl.LineTo, n-1), Points: dots(n)}, n <= 24)
	}
}

func TestPathOkOfEachPlace(t *testing.T) {
	verbs := movedThen(impl.LineTo, 23)
	for _, place := range []int{0, 1, 12, 22, 23} {
		for _, x := range farAndPast {
			points := dots(24)
			points[place].X = x
			checkPathOk(t, impl.Path{Verbs: verbs, Points: points}, withinFar(x))
			points = dots(24)
			points[place].Y = x
			checkPathOk(t, impl.Path{Verbs: verbs, Points: points}, withinFar(x))
		}
	}
}

func TestPathOkBehindAClose(t *testing.T) {
	for verb := -1; verb <= 7; verb++ {
		for _, ahead := range [][]int{{}, {1, 5}, {1, 2, 5}, {1, 4, 5}, {1, 5, 1, 5}, {1, 5, 1, 2, 5}} {
			verbs := append(slices.Clone(ahead), verb)
			checkPathOk(t, impl.Path{Verbs: verbs, Points: dots(pointsOf(verbs))}, verb == impl.MoveTo)
			more := append(slices.Clone(verbs), impl.LineTo, impl.Close)
			checkPathOk(t, impl.Path{Verbs: more, Points: dots(pointsOf(more))}, verb == impl.MoveTo)
		}
	}
}

// Every list of up to four verbs, with each number of points.
func TestPathOkOfAllShortLists(t *testing.T) {
	lists := [][]int{{}}
	for from := 0; from < len(lists); from++ {
		verbs := lists[from]
		for points := range 14 {
			p := impl.Path{Verbs: verbs, Points: dots(points)}
			checkPathOk(t, p, rightByLetters(p))
		}
		for verb := 0; verb <= 6 && len(verbs) < 4; verb++ {
			lists = append(lists, append(slices.Clone(verbs), verb))
		}
	}
}

func TestPathTextWrittenOut(t *testing.T) {
	for _, w := range writtenPaths() {
		checkPathText(t, w.path, w.text, true)
	}
	checkPathText(t, impl.Path{Verbs: []int{}, Points: []impl.Point{}}, "", true)
}

func TestPathTextOfWhatIsWrong(t *testing.T) {
	for _, p := range wrongPaths() {
		checkPathText(t, p, "", false)
	}
}

func TestParsePathWrittenOut(t *testing.T) {
	for _, w := range writtenPaths() {
		checkParsePath(t, w.text, w.path, true)
	}
}

func TestParsePathRefuses(t *testing.T) {
	for _, text := range []string{
		" ", "  ", "\n", "\x00", "M", "Z", "1", "1 2", "-", "m 1 2", "z", "M1 2", "M 1,2", "M 1 2Z", "M 1 2,L 3 4",
		" M 1 2", "M 1 2 ", "M  1 2", "M 1  2", "M 1 2  Z", "M 1 2 Z ", " M 1 2 Z", "M\t1 2", "M 1 2\n", "\nM 1 2", "M 1\u00a02", "M 1 2\r",
		"M +1 2", "M 1 +2", "M -0 2", "M 1 -0", "M 01 2", "M 1 02", "M 00 2", "M -01 2", "M 1 -02", "M --1 2", "M - 1 2", "M 1- 2", "M 1 -", "M 1 +",
		"M 1.0 2", "M 1e1 2", "M 0x1 2", "M 1_0 2", "M a 2", "M 1 b", "M \u0661 2",
		"M 1", "M 1 2 3", "M 1 2 3 4", "M 1 2 L 3", "M 1 2 L 3 4 5", "M 1 2 Q 3 4", "M 1 2 Q 3 4 5", "M 1 2 Q 3 4 5 6 7", "M 1 2 C 3 4 5 6 7", "M 1 2 C 3 4 5 6 7 8 9", "M 1 2 C 3 4", "M 1 2 Z 3", "M 1 2 Z 3 4",
		"M M 1 2 3 4", "1 2 M", "M 1 L 2 3 4", "M 1 2 3 L 4", "M L 1 2 3 4", "M 1 2 Q 3 4 L 5 6 7 8",
		"A 1 2", "H 1 2", "M 1 2 V 3 4", "M 1 2 X", "M 1 2 ZZ", "ML 1 2 3 4", "M 1 2 LQ 3 4", "MLQCZ", "M 1 2 CZ 3 4 5 6 7 8",
		"L 1 2", "Q 1 2 3 4", "C 1 2 3 4 5 6", "Z M 1 2", "M 1 2 Z L 3 4", "M 1 2 Z Q 3 4 5 6", "M 1 2 Z C 3 4 5 6 7 8", "M 1 2 Z Z", "M 1 2 L 3 4 Z Z",
		"M 8388609 0", "M 0 8388609", "M -8388609 0", "M 0 -8388609", "M 0 0 L 0 8388609", "M 1000000000 0", "M -1000000000 0", "M 1000000001 0",
		"M 9223372036854775807 0", "M 9223372036854775808 0", "M -9223372036854775808 0", "M -9223372036854775809 0", "M 18446744073709551617 0", "M 0 18446744073709551616", "M 340282366920938463463374607431768211457 1",
		"M 1 2\x00", "M\x001 2", "M 1 2 \xff", "\xff",
	} {
		checkParsePath(t, text, impl.Path{}, false)
	}
}

func TestParsePathAtItsLimits(t *testing.T) {
	const far = " -8388608 -8388608"
	for n := 20; n < 30; n++ {
		for _, c := range []struct {
			text string
			path impl.Path
		}{
			{"M" + far + strings.Repeat(" L"+far, n-1), impl.Path{Verbs: movedThen(impl.LineTo, n-1), Points: slices.Repeat([]impl.Point{{X: -impl.Far, Y: -impl.Far}}, n)}},
			{"M 0 0" + strings.Repeat(" Z M 0 0", (n-1)/2), impl.Path{Verbs: append(slices.Repeat([]int{1, 5}, (n-1)/2), 1), Points: make([]impl.Point, (n+1)/2)}},
			{"M 0 0 C 0 0 0 0 0 0" + strings.Repeat(" L 0 0", n-4), impl.Path{Verbs: append([]int{1, 4}, slices.Repeat([]int{2}, n-4)...), Points: make([]impl.Point, n)}},
		} {
			if len(c.path.Verbs) <= 24 && len(c.path.Points) <= 24 {
				checkParsePath(t, c.text, c.path, true)
			} else {
				checkParsePath(t, c.text, impl.Path{}, false)
			}
		}
	}
}

func TestParsePathOfLongTexts(t *testing.T) {
	for _, text := range []string{
		strings.Repeat("M 1 2 ", 100000), strings.Repeat("Z ", 300000), strings.Repeat("M", 100000), strings.Repeat("1 ", 300000), strings.Repeat(" ", 300000),
		"M " + strings.Repeat("1", 300000) + " 2", "M -" + strings.Repeat("0", 300000) + "1 2", "M 1 2 " + strings.Repeat("Z ", 300000), "M 1 2" + strings.Repeat(" ", 300000) + "Z",
		"M 1 2" + strings.Repeat(" L 3 4", 100000),
	} {
		checkParsePath(t, text, impl.Path{}, false)
	}
}

// Every text that is one byte away from a path's, held against the form of its words.
func TestParsePathOneByteAway(t *testing.T) {
	for _, w := range writtenPaths() {
		for at := 0; at <= len(w.text); at++ {
			for _, c := range []string{"", " ", "0", "1", "9", "-", "+", "M", "L", "Q", "C", "Z", "N", "\t", "\x00", "\x80"} {
				checkByForm(t, w.text[:at]+c+w.text[at:])
				if at < len(w.text) {
					checkByForm(t, w.text[:at]+c+w.text[at+1:])
				}
			}
		}
	}
}

// Every text of up to five words of these.
func TestParsePathOfAllShortTexts(t *testing.T) {
	words := []string{"M", "L", "Q", "Z", "3", "-4", "-0", ""}
	texts := slices.Clone(words)
	for from := 0; from < len(texts); from++ {
		checkByForm(t, texts[from])
		for _, word := range words {
			if strings.Count(texts[from], " ") < 4 {
				texts = append(texts, texts[from]+" "+word)
			}
		}
	}
}

func checkByForm(t *testing.T, text string) {
	t.Helper()
	p, ok := impl.ParsePath(text)
	if ok != isPathByForm(text) {
		t.Errorf("ParsePath(%q) = %v, %v", text, p, ok)
	}
	if !ok && !samePath(p, impl.Path{}) {
		t.Errorf("ParsePath(%q) = %v beside a false", text, p)
	}
	if ok {
		checkPathText(t, p, text, true)
	}
}

func TestPromise6PathsComeBack(t *testing.T) {
	for _, p := range rightPaths() {
		text, ok := impl.PathText(p)
		if !ok {
			t.Errorf("PathText(%v) refused", p)
		}
		checkParsePath(t, text, p, true)
	}
}

// Paths of many kinds, points of every size among them.
func TestPromise6OfManyPaths(t *testing.T) {
	seed := uint32(6)
	next := func(n int) int {
		seed = seed*1664525 + 1013904223
		return int(seed>>8) % n
	}
	for range 3000 {
		p := impl.Path{}
		for len(p.Verbs) < next(25) {
			verb := 1 + next(5)
			if n := len(p.Verbs); n == 0 || p.Verbs[n-1] == impl.Close {
				verb = impl.MoveTo
			}
			if len(p.Points)+pointsOf([]int{verb}) > 24 {
				break
			}
			p.Verbs = append(p.Verbs, verb)
			for range pointsOf([]int{verb}) {
				width := 1 << next(24)
				p.Points = append(p.Points, impl.Point{X: next(2*width) - width, Y: next(2*width) - width})
			}
		}
		text, ok := impl.PathText(p)
		if !ok || !isPathByForm(text) {
			t.Errorf("PathText(%v) = %q, %v", p, text, ok)
		}
		checkParsePath(t, text, p, true)
	}
}

func TestMovePathWrittenOut(t *testing.T) {
	p := impl.Path{Verbs: []int{1, 2, 3, 5}, Points: []impl.Point{{X: 1, Y: 2}, {X: 3, Y: -4}, {X: 50, Y: 60}, {X: impl.Far, Y: -impl.Far}}}
	for _, c := range []struct {
		m    impl.Mat
		want []impl.Point
	}{
		{impl.Still(), []impl.Point{{X: 1, Y: 2}, {X: 3, Y: -4}, {X: 50, Y: 60}, {X: 8388608, Y: -8388608}}},
		{impl.Shift(10, -20), []impl.Point{{X: 11, Y: -18}, {X: 13, Y: -24}, {X: 60, Y: 40}, {X: 8388608, Y: -8388608}}},
		{impl.Shift(-10, 20), []impl.Point{{X: -9, Y: 22}, {X: -7, Y: 16}, {X: 40, Y: 80}, {X: 8388598, Y: -8388588}}},
		{quarter, []impl.Point{{X: -2, Y: 1}, {X: 4, Y: 3}, {X: -60, Y: 50}, {X: 8388608, Y: 8388608}}},
		{impl.Mat{}, make([]impl.Point, 4)},
	} {
		checkMovePath(t, c.m, p, impl.Path{Verbs: p.Verbs, Points: c.want})
	}
	checkMovePath(t, impl.Shift(1, 1), impl.Path{}, impl.Path{})
}

func TestMovePathIsApply(t *testing.T) {
	mats := append(rightMats(), impl.Still(), quarter)
	for _, p := range rightPaths() {
		for _, m := range mats {
			want := copyOfPath(p)
			for i, place := range p.Points {
				want.Points[i] = applyByLibrary(m, place)
			}
			checkMovePath(t, m, p, want)
			checkPathOk(t, want, true)
		}
	}
}

func TestMovePathOfWhatIsWrong(t *testing.T) {
	for _, p := range wrongPaths() {
		checkMovePath(t, impl.Still(), p, impl.Path{})
		checkMovePath(t, impl.Mat{}, p, impl.Path{})
	}
	for _, m := range wrongMats() {
		for _, p := range rightPaths() {
			checkMovePath(t, m, p, impl.Path{})
		}
	}
}

// What is written into an answer is not seen in the path, nor the other way round; the spare room of both lists stays as it is.
func TestMovePathAnswersInNewMemory(t *testing.T) {
	verbs := []int{1, 2, 5, 77, 78}
	points := append(dots(2), impl.Point{X: 900, Y: 901}, impl.Point{X: 902, Y: 903})
	roomOfVerbs, roomOfPoints := slices.Clone(verbs), slices.Clone(points)
	p := impl.Path{Verbs: verbs[:3], Points: points[:2]}
	moved := impl.MovePath(impl.Still(), p)
	again := impl.MovePath(impl.Still(), p)
	for i := range moved.Verbs {
		moved.Verbs[i] = 99
	}
	for i := range moved.Points {
		moved.Points[i] = impl.Point{X: 99, Y: 99}
	}
	_ = append(moved.Verbs, 99, 99)
	_ = append(moved.Points, impl.Point{}, impl.Point{})
	if !slices.Equal(verbs, roomOfVerbs) || !slices.Equal(points, roomOfPoints) {
		t.Errorf("the path's room became %v, %v", verbs, points)
	}
	verbs[0], points[0] = 4, impl.Point{X: -1, Y: -1}
	if !samePath(again, impl.Path{Verbs: []int{1, 2, 5}, Points: dots(2)}) {
		t.Errorf("the answer became %v", again)
	}
}

func TestPathsAreNotOnesThatWereGivenOut(t *testing.T) {
	b := impl.Box{X0: 1, Y0: 2, X1: 3, Y1: 4}
	want := impl.Path{Verbs: []int{1, 2, 2, 2, 5}, Points: []impl.Point{{X: 1, Y: 2}, {X: 3, Y: 2}, {X: 3, Y: 4}, {X: 1, Y: 4}}}
	for range 2 {
		checkRectPath(t, b, want)
		rect := impl.RectPath(b)
		rect.Verbs[0], rect.Points[0] = 99, impl.Point{X: 99}
		checkParsePath(t, "M 1 2 L 3 2 L 3 4 L 1 4 Z", want, true)
		parsed, _ := impl.ParsePath("M 1 2 L 3 2 L 3 4 L 1 4 Z")
		parsed.Verbs[0], parsed.Points[0] = 99, impl.Point{X: 99}
	}
}

func TestRectPathWrittenOut(t *testing.T) {
	verbs := []int{impl.MoveTo, impl.LineTo, impl.LineTo, impl.LineTo, impl.Close}
	for _, c := range []struct {
		b       impl.Box
		corners []impl.Point
	}{
		{impl.Box{X1: 2, Y1: 3}, []impl.Point{{}, {X: 2}, {X: 2, Y: 3}, {Y: 3}}},
		{impl.Box{X0: 10, Y0: 20, X1: 30, Y1: 40}, []impl.Point{{X: 10, Y: 20}, {X: 30, Y: 20}, {X: 30, Y: 40}, {X: 10, Y: 40}}},
		{impl.Box{X0: -4, Y0: -3, X1: -2, Y1: -1}, []impl.Point{{X: -4, Y: -3}, {X: -2, Y: -3}, {X: -2, Y: -1}, {X: -4, Y: -1}}},
		{impl.Box{X0: -1, Y0: -1}, []impl.Point{{X: -1, Y: -1}, {Y: -1}, {}, {X: -1}}},
		{impl.Box{X0: -8388608, Y0: -8388608, X1: 8388608, Y1: 8388608}, []impl.Point{{X: -8388608, Y: -8388608}, {X: 8388608, Y: -8388608}, {X: 8388608, Y: 8388608}, {X: -8388608, Y: 8388608}}},
	} {
		want := impl.Path{Verbs: verbs, Points: c.corners}
		checkRectPath(t, c.b, want)
		checkPathOk(t, want, true)
	}
}

func TestRectPathOfWhatIsEmpty(t *testing.T) {
	for _, b := range emptyBoxes {
		checkRectPath(t, b, impl.Path{})
	}
}

// Each number of the box by itself, and each pair, at the limits and past them.
func TestRectPathAtItsLimits(t *testing.T) {
	for _, from := range farAndPast {
		for _, to := range farAndPast {
			beside, below := impl.Path{}, impl.Path{}
			if from < to && withinFar(from) && withinFar(to) {
				verbs := []int{1, 2, 2, 2, 5}
				beside = impl.Path{Verbs: verbs, Points: []impl.Point{{X: from, Y: 5}, {X: to, Y: 5}, {X: to, Y: 6}, {X: from, Y: 6}}}
				below = impl.Path{Verbs: verbs, Points: []impl.Point{{X: 5, Y: from}, {X: 6, Y: from}, {X: 6, Y: to}, {X: 5, Y: to}}}
			}
			checkRectPath(t, impl.Box{X0: from, Y0: 5, X1: to, Y1: 6}, beside)
			checkRectPath(t, impl.Box{X0: 5, Y0: from, X1: 6, Y1: to}, below)
		}
	}
	checkRectPath(t, wholeBox, impl.Path{})
}
