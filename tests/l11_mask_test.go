package tests

import (
	"math"
	"slices"
	"strings"
	"testing"

	"loop.example/g00190/impl"
)

const hexFigures = "0123456789abcdef"

// A mask by its first square and its rows; a figure is the bits of a square.
func maskFrom(x0 int, y0 int, rows ...string) impl.Mask {
	m := impl.Mask{Box: impl.Box{X0: x0, Y0: y0, X1: x0 + len(rows[0]), Y1: y0 + len(rows)}}
	for _, figure := range strings.Join(rows, "") {
		m.Bits = append(m.Bits, strings.IndexRune(hexFigures, figure))
	}
	return m
}

// The bits of each square by a rule.
func maskByRule(b impl.Box, rule func(x int, y int) int) impl.Mask {
	m := impl.Mask{Box: b}
	for y := b.Y0; y < b.Y1; y++ {
		for x := b.X0; x < b.X1; x++ {
			m.Bits = append(m.Bits, rule(x, y))
		}
	}
	return m
}

func evenMask(b impl.Box, bits int) impl.Mask {
	return maskByRule(b, func(int, int) int { return bits })
}

func boxAt(x0 int, y0 int, wide int, high int) impl.Box {
	return impl.Box{X0: x0, Y0: y0, X1: x0 + wide, Y1: y0 + high}
}

// Runs by their numbers, four and four: Y, X0, X1, Bits.
func runsFrom(numbers ...int) []impl.Run {
	runs := []impl.Run{}
	for i := 0; i+3 < len(numbers); i += 4 {
		runs = append(runs, impl.Run{Y: numbers[i], X0: numbers[i+1], X1: numbers[i+2], Bits: numbers[i+3]})
	}
	return runs
}

func sameMask(a impl.Mask, b impl.Mask) bool {
	return a.Box == b.Box && slices.Equal(a.Bits, b.Bits)
}

// The same list with spare room behind it, and all of its room.
func withRoom[T any](list []T, spare T) ([]T, []T) {
	room := append(slices.Clone(list), spare, spare, spare)
	return room[:len(list)], room
}

// Of right masks: the bits of a square, 0 outside.
func bitsByHand(m impl.Mask, x int, y int) int {
	if !hasPoint(m.Box, impl.Point{X: x, Y: y}) {
		return 0
	}
	wide := m.Box.X1 - m.Box.X0
	return m.Bits[(y-m.Box.Y0)*wide+x-m.Box.X0]
}

// Of right masks: a run begins where the square to the left has other bits, and ends ahead of the next one that has.
func runsByHand(m impl.Mask) []impl.Run {
	runs := []impl.Run{}
	for y := m.Box.Y0; y < m.Box.Y1; y++ {
		for x := m.Box.X0; x < m.Box.X1; x++ {
			bits := bitsByHand(m, x, y)
			if bits == 0 {
				continue
			}
			if bitsByHand(m, x-1, y) == bits {
				runs[len(runs)-1].X1++
			} else {
				runs = append(runs, impl.Run{Y: y, X0: x, X1: x + 1, Bits: bits})
			}
		}
	}
	return runs
}

// Of right masks: square by square, with each of the four bits by itself.
func meetByHand(a impl.Mask, b impl.Mask) impl.Mask {
	return maskByRule(impl.MeetBox(a.Box, b.Box), func(x int, y int) int {
		sum := 0
		for _, bit := range []int{1, 2, 4, 8} {
			if bitsByHand(a, x, y)/bit%2 == 1 && bitsByHand(b, x, y)/bit%2 == 1 {
				sum += bit
			}
		}
		return sum
	})
}

func checkMaskOk(t *testing.T, m impl.Mask, want bool) {
	t.Helper()
	list, room := withRoom(m.Bits, 77)
	before := slices.Clone(room)
	if got := impl.MaskOk(impl.Mask{Box: m.Box, Bits: list}); got != want {
		t.Errorf("MaskOk(%v) = %v, want %v", m, got, want)
	}
	if !slices.Equal(room, before) {
		t.Errorf("MaskOk(%v) wrote into its list: %v", m, room)
	}
}

func checkMaskOf(t *testing.T, lines [][]impl.Point, even bool, b impl.Box, want impl.Mask) {
	t.Helper()
	before := copyOfLines(lines)
	got := impl.MaskOf(lines, even, b)
	if !sameMask(got, want) {
		t.Errorf("MaskOf(%v, %v, %v) = %v, want %v", lines, even, b, got, want)
	}
	if !impl.MaskOk(got) {
		t.Errorf("MaskOf(%v, %v, %v) = %v, which is not right", lines, even, b, got)
	}
	if !sameLines(lines, before) {
		t.Errorf("MaskOf(%v, %v, %v) wrote into its lines: %v", before, even, b, lines)
	}
}

func checkBitsAt(t *testing.T, m impl.Mask, x int, y int, want int) {
	t.Helper()
	list, room := withRoom(m.Bits, 7)
	before := slices.Clone(room)
	if got := impl.BitsAt(impl.Mask{Box: m.Box, Bits: list}, x, y); got != want {
		t.Errorf("BitsAt(%v, %d, %d) = %d, want %d", m, x, y, got, want)
	}
	if !slices.Equal(room, before) {
		t.Errorf("BitsAt(%v, %d, %d) wrote into its list: %v", m, x, y, room)
	}
}

// What is written into an answer, and into the room behind it, must not come to the lists that were handed in.
func checkMeetMask(t *testing.T, a impl.Mask, b impl.Mask, want impl.Mask) {
	t.Helper()
	first, firstRoom := withRoom(a.Bits, 5)
	second, secondRoom := withRoom(b.Bits, 6)
	firstBefore, secondBefore := slices.Clone(firstRoom), slices.Clone(secondRoom)
	got := impl.MeetMask(impl.Mask{Box: a.Box, Bits: first}, impl.Mask{Box: b.Box, Bits: second})
	if !sameMask(got, want) {
		t.Errorf("MeetMask(%v, %v) = %v, want %v", a, b, got, want)
	}
	if !impl.MaskOk(got) {
		t.Errorf("MeetMask(%v, %v) = %v, which is not right", a, b, got)
	}
	overwrite(got.Bits, 99)
	if !slices.Equal(firstRoom, firstBefore) || !slices.Equal(secondRoom, secondBefore) {
		t.Errorf("MeetMask(%v, %v) wrote into its lists, or shares them: %v, %v", a, b, firstRoom, secondRoom)
	}
}

func checkRunsOf(t *testing.T, m impl.Mask, want []impl.Run) {
	t.Helper()
	list, room := withRoom(m.Bits, 9)
	before := slices.Clone(room)
	if got := impl.RunsOf(impl.Mask{Box: m.Box, Bits: list}); !slices.Equal(got, want) {
		t.Errorf("RunsOf(%v) = %v, want %v", m, got, want)
	}
	if !slices.Equal(room, before) {
		t.Errorf("RunsOf(%v) wrote into its list: %v", m, room)
	}
}

func checkMaskBy(t *testing.T, b impl.Box, runs []impl.Run, want impl.Mask, wantOk bool) {
	t.Helper()
	list, room := withRoom(runs, impl.Run{Y: 1, X0: 2, X1: 3, Bits: 4})
	before := slices.Clone(room)
	got, ok := impl.MaskBy(b, list)
	if !sameMask(got, want) || ok != wantOk {
		t.Errorf("MaskBy(%v, %v) = %v, %v, want %v, %v", b, runs, got, ok, want, wantOk)
	}
	if !impl.MaskOk(got) {
		t.Errorf("MaskBy(%v, %v) = %v, which is not right", b, runs, got)
	}
	if !slices.Equal(room, before) {
		t.Errorf("MaskBy(%v, %v) wrote into its list: %v", b, runs, room)
	}
}

func checkNoMaskBy(t *testing.T, b impl.Box, runs []impl.Run) {
	t.Helper()
	checkMaskBy(t, b, runs, impl.Mask{}, false)
}

func overwrite[T any](list []T, with T) {
	all := list[:cap(list)]
	for i := range all {
		all[i] = with
	}
}

// Boxes that a right mask has: small ones, at the limits of a side and at those of their numbers.
var maskBoxes = []impl.Box{
	boxAt(0, 0, 1, 1), boxAt(0, 0, 5, 1), boxAt(0, 0, 1, 5), boxAt(3, 7, 4, 2), boxAt(-3, -2, 6, 5), boxAt(-9, 4, 2, 3), boxAt(4, -9, 3, 2), boxAt(-1, -1, 1, 1),
	boxAt(0, 0, 60, 1), boxAt(0, 0, 1, 60), boxAt(-30, -30, 60, 60), boxAt(-17, 5, 59, 2),
	boxAt(-2000, 0, 1, 1), boxAt(0, -2000, 1, 1), boxAt(1999, 0, 1, 1), boxAt(0, 1999, 1, 1),
	boxAt(-2000, -2000, 60, 3), boxAt(1940, 1998, 60, 2), boxAt(-2000, 1940, 2, 60), boxAt(1997, -2000, 3, 60),
}

// Boxes with squares that no right mask has: a side too long, or a number beyond the limits.
// Of some the sides wrap round to short ones.
var wrongMaskBoxes = []impl.Box{
	boxAt(0, 0, 61, 1), boxAt(0, 0, 1, 61), boxAt(0, 0, 61, 60), boxAt(0, 0, 60, 61), boxAt(-30, -30, 61, 61), boxAt(-2000, -2000, 4000, 4000), boxAt(-2000, 0, 4000, 1), boxAt(0, -2000, 1, 4000),
	boxAt(-2001, 0, 1, 1), boxAt(-2001, 0, 2, 1), boxAt(0, -2001, 1, 1), boxAt(0, -2001, 1, 2), boxAt(2000, 0, 1, 1), boxAt(1999, 0, 2, 1), boxAt(0, 2000, 1, 1), boxAt(0, 1999, 1, 2),
	boxAt(-2001, -2001, 1, 1), boxAt(2000, 2000, 1, 1), boxAt(-2001, 0, 60, 60), boxAt(1941, 0, 60, 60), boxAt(0, -2001, 60, 60), boxAt(0, 1941, 60, 60),
	{X0: math.MinInt, X1: 1, Y1: 1}, {Y0: math.MinInt, X1: 1, Y1: 1}, {X1: math.MaxInt, Y1: 1}, {X1: 1, Y1: math.MaxInt},
	{X0: math.MinInt, X1: math.MinInt + 1, Y1: 1}, {X0: math.MaxInt - 1, X1: math.MaxInt, Y1: 1}, {Y0: math.MinInt, X1: 1, Y1: math.MinInt + 1}, {Y0: math.MaxInt - 1, X1: 1, Y1: math.MaxInt},
	{X0: math.MinInt, X1: math.MaxInt, Y1: 1}, {Y0: math.MinInt, X1: 1, Y1: math.MaxInt}, wholeBox,
	{X0: math.MinInt, Y0: math.MinInt, X1: math.MaxInt - 1, Y1: math.MaxInt - 1}, {X0: math.MinInt, Y0: math.MinInt, X1: 2, Y1: 2},
	{X0: -1 << 32, X1: 1 << 32, Y0: -1 << 32, Y1: 1 << 32}, {X0: -1 << 62, X1: 1 << 62, Y1: 2}, {X0: -1 << 32, Y0: 0, X1: -1<<32 + 1, Y1: 1},
}

// Empty ones too, the box of zeros left out; of some the sides below 0 make a product above it.
var emptyMaskBoxes = append(slices.Clone(emptyBoxes[1:]), boxAt(0, 0, -1, -1), boxAt(5, 5, -2, -2), boxAt(0, 0, 3, 0), boxAt(0, 0, 0, 3), boxAt(1, 1, 0, 0), boxAt(-1, -1, 0, 0),
	boxAt(2000, 2000, 0, 0), boxAt(-2000, -2000, 0, 0), boxAt(4, 4, -3, 2), boxAt(4, 4, 2, -3))

// Each wrong in a way of its own.
func wrongMasks() []impl.Mask {
	masks := []impl.Mask{{Bits: []int{0}}, {Bits: []int{15}}, {Bits: make([]int, 3600)}}
	for _, b := range slices.Concat(emptyMaskBoxes, wrongMaskBoxes) {
		for _, count := range []int{0, 1, 2, 4, 60, 61, 122, 3600, 3660, 3721} {
			masks = append(masks, impl.Mask{Box: b, Bits: slices.Repeat([]int{5}, count)})
		}
	}
	for _, b := range []impl.Box{boxAt(0, 0, 1, 1), boxAt(-2, -1, 3, 2), boxAt(0, 0, 60, 60), boxAt(1990, -2000, 10, 4)} {
		right := evenMask(b, 6)
		masks = append(masks, impl.Mask{Box: b}, impl.Mask{Box: b, Bits: right.Bits[1:]}, impl.Mask{Box: b, Bits: append(slices.Clone(right.Bits), 6)})
		for _, place := range []int{0, len(right.Bits) / 2, len(right.Bits) - 1} {
			for _, bits := range []int{-1, 16, 17, -16, 1 << 32, math.MinInt, math.MaxInt} {
				wrong := slices.Clone(right.Bits)
				wrong[place] = bits
				masks = append(masks, impl.Mask{Box: b, Bits: wrong})
			}
		}
	}
	return masks
}

// Right ones, of all kinds of boxes and of bits; the one without anything is the first.
func rightMasks() []impl.Mask {
	masks := []impl.Mask{{}}
	rules := []func(x int, y int) int{
		func(x int, y int) int { return 0 },
		func(x int, y int) int { return 15 },
		func(x int, y int) int { return (7*x + 3*y) & 15 },
		func(x int, y int) int { return 9 * ((x ^ y) & 1) },
		func(x int, y int) int { return 6 * (x / 3 & 1) },
		func(x int, y int) int { return 1 << ((x*x + y) & 3) },
		func(x int, y int) int { return (x*y ^ x>>2) & 13 },
	}
	for _, b := range maskBoxes {
		for _, rule := range rules {
			masks = append(masks, maskByRule(b, rule))
		}
	}
	return masks
}

func TestMaskOkWithoutAnything(t *testing.T) {
	checkMaskOk(t, impl.Mask{}, true)
	checkMaskOk(t, impl.Mask{Bits: []int{}}, true)
	for _, count := range []int{1, 2, 60, 3600} {
		for _, bits := range []int{-1, 0, 15, 16} {
			checkMaskOk(t, impl.Mask{Bits: slices.Repeat([]int{bits}, count)}, false)
		}
	}
}

func TestMaskOkOfEmptyBoxes(t *testing.T) {
	for _, b := range emptyMaskBoxes {
		for _, count := range []int{0, 1, 2, 3, 4, 9, 36, 60} {
			checkMaskOk(t, impl.Mask{Box: b, Bits: make([]int, count)}, false)
		}
	}
	for _, b := range boxesWithin(-2, 2) {
		if b.X0 < b.X1 && b.Y0 < b.Y1 || b == (impl.Box{}) {
			continue
		}
		for count := range 17 {
			checkMaskOk(t, impl.Mask{Box: b, Bits: make([]int, count)}, false)
		}
	}
}

func TestMaskOkCountsItsBits(t *testing.T) {
	for _, b := range maskBoxes {
		count := (b.X1 - b.X0) * (b.Y1 - b.Y0)
		checkMaskOk(t, impl.Mask{Box: b}, false)
		checkMaskOk(t, impl.Mask{Box: b, Bits: make([]int, count-1)}, false)
		checkMaskOk(t, impl.Mask{Box: b, Bits: make([]int, count)}, true)
		checkMaskOk(t, impl.Mask{Box: b, Bits: make([]int, count+1)}, false)
		checkMaskOk(t, impl.Mask{Box: b, Bits: make([]int, 2*count)}, false)
	}
	for wide := 1; wide <= 4; wide++ {
		for high := 1; high <= 4; high++ {
			for count := range 20 {
				checkMaskOk(t, impl.Mask{Box: boxAt(-2, 1, wide, high), Bits: make([]int, count)}, count == wide*high)
			}
		}
	}
}

func TestMaskOkOfLongSides(t *testing.T) {
	for _, x0 := range []int{-2000, -61, -30, 0, 1, 1939} {
		for _, wide := range []int{1, 2, 59, 60, 61, 62, 120} {
			for _, high := range []int{1, 2, 59, 60, 61, 62, 120} {
				if x0+max(wide, high) > 2000 {
					continue
				}
				checkMaskOk(t, evenMask(boxAt(x0, x0, wide, high), 3), wide <= 60 && high <= 60)
				checkMaskOk(t, evenMask(boxAt(x0, 0, wide, high), 15), wide <= 60 && high <= 60)
				checkMaskOk(t, evenMask(boxAt(0, x0, wide, high), 0), wide <= 60 && high <= 60)
			}
		}
	}
}

// All that begin or end near the limits, on one side and on both.
func TestMaskOkAroundTheLimits(t *testing.T) {
	for _, n := range []int{-2003, -2002, -2001, -2000, -1999, -1998, 1997, 1998, 1999, 2000, 2001, 2002} {
		for side := 1; side <= 3; side++ {
			within := n >= -2000 && n+side <= 2000
			checkMaskOk(t, evenMask(boxAt(n, 0, side, 2), 1), within)
			checkMaskOk(t, evenMask(boxAt(0, n, 2, side), 1), within)
			checkMaskOk(t, evenMask(boxAt(n, n, side, side), 1), within)
			checkMaskOk(t, evenMask(boxAt(n, -n-side, side, side), 1), within)
		}
	}
}

// One number of a right box at a time.
func TestMaskOkOfEachNumberOfTheBox(t *testing.T) {
	for _, n := range []int{math.MinInt, math.MinInt + 1, -1 << 62, -1 << 32, -2001, -2000, 2000, 2001, 1 << 32, 1 << 62, math.MaxInt - 1, math.MaxInt} {
		for _, b := range []impl.Box{boxAt(0, 0, 1, 1), boxAt(-3, 5, 4, 2), boxAt(-2000, -2000, 2, 2), boxAt(1998, 1998, 2, 2), boxAt(0, 0, 60, 60)} {
			for place := range 4 {
				changed := b
				*[]*int{&changed.X0, &changed.Y0, &changed.X1, &changed.Y1}[place] = n
				for _, count := range []int{0, 1, 2, 4, 8, 3600} {
					m := impl.Mask{Box: changed, Bits: make([]int, count)}
					checkMaskOk(t, m, changed == b && count == (b.X1-b.X0)*(b.Y1-b.Y0))
				}
			}
		}
	}
}

func TestMaskOkOfWrongBoxes(t *testing.T) {
	for _, m := range wrongMasks() {
		checkMaskOk(t, m, false)
	}
	for _, m := range rightMasks() {
		checkMaskOk(t, m, true)
	}
}

func TestMaskOkOfEachBits(t *testing.T) {
	for _, b := range []impl.Box{boxAt(0, 0, 1, 1), boxAt(-1, -1, 3, 3), boxAt(2, 0, 60, 60)} {
		m := evenMask(b, 7)
		for place := range m.Bits {
			for _, bits := range []int{-1, 0, 15, 16} {
				m.Bits[place] = bits
				if got := impl.MaskOk(m); got != (bits == 0 || bits == 15) {
					t.Errorf("MaskOk of %v with bits %d at place %d = %v", b, bits, place, got)
				}
			}
			m.Bits[place] = 7
		}
		for _, bits := range []int{math.MinInt, math.MinInt + 1, -1 << 32, -17, -16, -15, -2, 17, 31, 32, 1 << 32, 1<<32 + 1, math.MaxInt} {
			for _, place := range []int{0, (b.X1 - b.X0) * (b.Y1 - b.Y0) / 2, (b.X1-b.X0)*(b.Y1-b.Y0) - 1} {
				m := evenMask(b, 0)
				m.Bits[place] = bits
				checkMaskOk(t, m, false)
			}
		}
		for bits := range 16 {
			checkMaskOk(t, evenMask(b, bits), true)
		}
	}
}

// In units, a box of squares all around.
func aroundSquares(b impl.Box) []impl.Point {
	return around(256*b.X0, 256*b.Y0, 256*b.X1, 256*b.Y1)
}

func TestMaskOfWrittenOut(t *testing.T) {
	for _, c := range []struct {
		line []impl.Point
		want impl.Mask
	}{
		{around(0, 0, 384, 256), maskFrom(0, 0, "f5")},
		{around(0, 0, 256, 256), maskFrom(0, 0, "f")},
		{around(64, 64, 65, 65), maskFrom(0, 0, "1")},
		{around(128, 128, 640, 640), maskFrom(0, 0, "8c4", "af5", "231")},
		{around(128, 128, 640, 640), maskFrom(-1, -1, "00000", "08c40", "0af50", "02310", "00000")},
		{around(-128, -256, 128, 512), maskFrom(-1, -1, "a5", "a5", "a5")},
		{around(-300, -300, -100, -100), maskFrom(-3, -3, "0000", "0000", "0010", "0000")},
		{placesOf(0, 0, 1024, 0, 0, 1024), maskFrom(0, 0, "fff1", "ff10", "f100", "1000")},
		{placesOf(0, 0, 256, 256, 0, 256), maskFrom(0, 0, "4")},
	} {
		for _, even := range []bool{false, true} {
			checkMaskOf(t, [][]impl.Point{c.line}, even, c.want.Box, c.want)
			checkMaskOf(t, [][]impl.Point{backwards(c.line)}, even, c.want.Box, c.want)
		}
	}
}

// Each square has other bits than those beside it, so that none can stand in the place of another.
func TestMaskOfEachSquareInItsPlace(t *testing.T) {
	for _, b := range []impl.Box{boxAt(0, 0, 1, 1), boxAt(0, 0, 5, 1), boxAt(0, 0, 1, 5), boxAt(2, 3, 4, 3), boxAt(-5, -4, 3, 5), boxAt(-2, -1, 4, 2), boxAt(-2000, 1996, 3, 4), boxAt(1996, -2000, 4, 3)} {
		want := maskByRule(b, func(x int, y int) int { return (5*x + 3*y) & 15 })
		lines := [][]impl.Point{}
		for y := b.Y0 - 1; y <= b.Y1; y++ {
			for x := b.X0 - 1; x <= b.X1; x++ {
				lines = append(lines, boxesOfBits(impl.Point{X: x, Y: y}, (5*x+3*y)&15)...)
			}
		}
		checkMaskOf(t, lines, false, b, want)
		checkMaskOf(t, lines, true, b, want)
	}
}

func TestMaskOfAllSomeAndNone(t *testing.T) {
	for _, b := range maskBoxes {
		all := aroundSquares(b)
		apart := aroundSquares(impl.Box{X0: b.X1, Y0: b.Y0, X1: b.X1 + 1, Y1: b.Y1})
		leftColumn := aroundSquares(impl.Box{X0: b.X0, Y0: b.Y0, X1: b.X0 + 1, Y1: b.Y1})
		left := maskByRule(b, func(x int, y int) int {
			if x == b.X0 {
				return 15
			}
			return 0
		})
		rest := maskByRule(b, func(x int, y int) int { return 15 - bitsByHand(left, x, y) })
		for _, c := range []struct {
			lines      [][]impl.Point
			full, even impl.Mask
		}{
			{nil, evenMask(b, 0), evenMask(b, 0)},
			{[][]impl.Point{}, evenMask(b, 0), evenMask(b, 0)},
			{[][]impl.Point{nil, {}, all[:1], all[:2]}, evenMask(b, 0), evenMask(b, 0)},
			{[][]impl.Point{all}, evenMask(b, 15), evenMask(b, 15)},
			{[][]impl.Point{all, all}, evenMask(b, 15), evenMask(b, 0)},
			{[][]impl.Point{all, backwards(all)}, evenMask(b, 0), evenMask(b, 0)},
			{[][]impl.Point{apart}, evenMask(b, 0), evenMask(b, 0)},
			{[][]impl.Point{leftColumn}, left, left},
			{[][]impl.Point{all, leftColumn}, evenMask(b, 15), rest},
			{[][]impl.Point{all, backwards(leftColumn)}, rest, rest},
			{[][]impl.Point{around(0, 0, boxFar+1, 256), all}, evenMask(b, 15), evenMask(b, 15)},
		} {
			checkMaskOf(t, c.lines, false, b, c.full)
			checkMaskOf(t, c.lines, true, b, c.even)
		}
	}
}

func TestMaskOfStrokesAndCurves(t *testing.T) {
	for _, text := range []string{"M -600 -300 C 900 -900 -700 1200 500 600", "M 0 0 Q 700 -100 300 800 Z M -200 -500 L 500 500 L -500 400 Z", "M -700 0 L 700 130 M 10 -700 L -90 700"} {
		flat := impl.FlatOf(pathOf(t, text))
		for _, lines := range [][][]impl.Point{flat, impl.StrokeOf(flat, 100), impl.StrokeOf(flat, 333)} {
			for _, b := range []impl.Box{boxAt(-4, -4, 8, 8), boxAt(-1, -3, 1, 6), boxAt(-3, 0, 6, 1), boxAt(0, 0, 1, 1)} {
				for _, even := range []bool{false, true} {
					want := maskByRule(b, func(x int, y int) int { return maskByCrossings(lines, even, x, y) })
					checkMaskOf(t, lines, even, b, want)
				}
			}
		}
	}
}

func TestMaskOfWrongBoxes(t *testing.T) {
	whole := [][]impl.Point{around(-boxFar, -boxFar, boxFar, boxFar)}
	for _, even := range []bool{false, true} {
		for _, b := range slices.Concat(emptyBoxes, emptyMaskBoxes, wrongMaskBoxes) {
			checkMaskOf(t, whole, even, b, impl.Mask{})
			checkMaskOf(t, nil, even, b, impl.Mask{})
		}
		for _, b := range maskBoxes {
			checkMaskOf(t, whole, even, b, evenMask(b, 15))
		}
	}
	for _, n := range []int{-2002, -2001, -2000, -1999, 1998, 1999, 2000, 2001} {
		for _, b := range []impl.Box{boxAt(n, 0, 1, 1), boxAt(0, n, 1, 1), boxAt(n, n, 1, 1)} {
			want := impl.Mask{}
			if n >= -2000 && n+1 <= 2000 {
				want = impl.Mask{Box: b, Bits: []int{15}}
			}
			checkMaskOf(t, whole, false, b, want)
		}
	}
}

func TestBitsAtWrittenOut(t *testing.T) {
	m := maskFrom(-1, 2, "1a3", "0f5")
	for _, c := range []struct{ x, y, want int }{
		{-1, 2, 1}, {0, 2, 10}, {1, 2, 3}, {-1, 3, 0}, {0, 3, 15}, {1, 3, 5},
		{-2, 2, 0}, {2, 2, 0}, {-2, 3, 0}, {2, 3, 0}, {-1, 1, 0}, {0, 1, 0}, {1, 1, 0}, {-1, 4, 0}, {0, 4, 0}, {1, 4, 0}, {0, 0, 0},
	} {
		checkBitsAt(t, m, c.x, c.y, c.want)
	}
}

// Each square, and the squares all around the box, one beyond it.
func TestBitsAtEachSquare(t *testing.T) {
	for _, m := range rightMasks() {
		for y := m.Box.Y0 - 1; y <= m.Box.Y1; y++ {
			for x := m.Box.X0 - 1; x <= m.Box.X1; x++ {
				if got, want := impl.BitsAt(m, x, y), bitsByHand(m, x, y); got != want {
					t.Errorf("BitsAt(%v, %d, %d) = %d, want %d", m.Box, x, y, got, want)
				}
			}
		}
	}
}

func TestBitsAtFarOutside(t *testing.T) {
	far := []int{math.MinInt, math.MinInt + 1, -1 << 62, -1 << 32, -2001, 2001, 1 << 32, 1 << 62, math.MaxInt - 1, math.MaxInt}
	for _, b := range []impl.Box{boxAt(0, 0, 1, 1), boxAt(-3, -2, 6, 5), boxAt(-2000, -2000, 2, 60), boxAt(1998, 1940, 2, 60)} {
		m := evenMask(b, 15)
		for _, n := range far {
			checkBitsAt(t, m, n, b.Y0, 0)
			checkBitsAt(t, m, b.X0, n, 0)
			// Without its highest bit, or its higher half, it would be one of the box.
			checkBitsAt(t, m, b.X0^math.MinInt, b.Y0, 0)
			checkBitsAt(t, m, b.X0, b.Y0^math.MinInt, 0)
			checkBitsAt(t, m, b.X0+1<<32, b.Y0, 0)
			checkBitsAt(t, m, b.X0, b.Y0+1<<32, 0)
			for _, other := range far {
				checkBitsAt(t, m, n, other, 0)
			}
		}
	}
}

// A place in the list that is there would be met by these, were the columns not asked for.
func TestBitsAtBesideARowIsNotTheNextRow(t *testing.T) {
	m := evenMask(boxAt(10, 20, 3, 4), 15)
	for over := 1; over <= 12; over++ {
		checkBitsAt(t, m, 12+over, 20, 0)
		checkBitsAt(t, m, 10-over, 23, 0)
		checkBitsAt(t, m, 10, 23+over, 0)
		checkBitsAt(t, m, 10, 20-over, 0)
	}
}

func TestBitsAtOfWhatIsNotRight(t *testing.T) {
	for _, m := range append(wrongMasks(), impl.Mask{}) {
		for _, p := range append(placesOf(0, 0, 1, 1, -1, -1, 1995, -1999, math.MinInt, math.MinInt, math.MaxInt, math.MaxInt), impl.Point{X: m.Box.X0, Y: m.Box.Y0}, impl.Point{X: m.Box.X1 - 1, Y: m.Box.Y1 - 1}) {
			checkBitsAt(t, m, p.X, p.Y, 0)
		}
	}
}

func TestMeetMaskWrittenOut(t *testing.T) {
	a := maskFrom(0, 0, "123", "456", "789")
	for _, c := range []struct{ b, want impl.Mask }{
		{maskFrom(0, 0, "fff", "fff", "fff"), a},
		{maskFrom(0, 0, "000", "000", "000"), maskFrom(0, 0, "000", "000", "000")},
		{maskFrom(0, 0, "edc", "ba9", "876"), maskFrom(0, 0, "000", "000", "000")},
		{maskFrom(0, 0, "3c5", "f10", "a7e"), maskFrom(0, 0, "101", "410", "208")},
		{maskFrom(1, 1, "f"), maskFrom(1, 1, "5")},
		{maskFrom(1, 0, "f", "f", "f"), maskFrom(1, 0, "2", "5", "8")},
		{maskFrom(0, 2, "fff"), maskFrom(0, 2, "789")},
		{maskFrom(-1, -1, "fffff", "fffff", "fffff", "fffff", "fffff"), a},
		{maskFrom(1, 1, "fff", "fff", "fff"), maskFrom(1, 1, "56", "89")},
		{maskFrom(-1, -1, "fff", "fff"), maskFrom(0, 0, "12")},
		{maskFrom(2, 2, "bff", "fff"), maskFrom(2, 2, "9")},
		{maskFrom(-2, -2, "fff", "fff", "fff"), maskFrom(0, 0, "1")},
		{maskFrom(2, -1, "ff", "ff"), maskFrom(2, 0, "3")},
		{maskFrom(-3, 2, "ffff", "ffff"), maskFrom(0, 2, "7")},
		{maskFrom(1, -5, "6", "6", "6", "6", "6", "6", "6", "6", "6", "6"), maskFrom(1, 0, "2", "4", "0")},
		{maskFrom(3, 0, "fff", "fff", "fff"), impl.Mask{}}, {maskFrom(-3, 0, "fff", "fff", "fff"), impl.Mask{}},
		{maskFrom(0, 3, "fff", "fff"), impl.Mask{}}, {maskFrom(0, -2, "fff", "fff"), impl.Mask{}}, {maskFrom(3, 3, "f"), impl.Mask{}}, {maskFrom(-1, -1, "f"), impl.Mask{}},
		{maskFrom(9, 9, "ff", "ff"), impl.Mask{}}, {maskFrom(0, 50, "fff"), impl.Mask{}}, {maskFrom(-2000, -2000, "f"), impl.Mask{}}, {impl.Mask{}, impl.Mask{}},
	} {
		checkMeetMask(t, a, c.b, c.want)
		checkMeetMask(t, c.b, a, c.want)
	}
	checkMeetMask(t, a, a, a)
}

// Every box with every other: the same, one within the other, that meet, that touch, that are apart.
func TestMeetMaskOfAllSmallBoxes(t *testing.T) {
	masks := []impl.Mask{}
	for _, b := range boxesWithin(-2, 2) {
		if b.X0 < b.X1 && b.Y0 < b.Y1 {
			masks = append(masks, maskByRule(b, func(x int, y int) int { return (5*x + 3*y*y + 7) & 15 }))
			masks = append(masks, maskByRule(b, func(x int, y int) int { return (11*x*x + 2*y + 12) & 15 }))
		}
	}
	for _, a := range masks {
		for _, b := range masks {
			checkMeetMask(t, a, b, meetByHand(a, b))
		}
	}
}

func TestMeetMaskOfAllBits(t *testing.T) {
	for a := range 16 {
		for b := range 16 {
			both := 0
			for _, bit := range []int{1, 2, 4, 8} {
				both += bit * (a / bit % 2) * (b / bit % 2)
			}
			checkMeetMask(t, evenMask(boxAt(0, 0, 2, 2), a), evenMask(boxAt(1, 1, 2, 2), b), impl.Mask{Box: boxAt(1, 1, 1, 1), Bits: []int{both}})
		}
	}
}

func TestMeetMaskOfGreatBoxes(t *testing.T) {
	a := maskByRule(boxAt(-30, -30, 60, 60), func(x int, y int) int { return (7*x + 3*y) & 15 })
	for _, b := range []impl.Box{a.Box, boxAt(-29, -31, 60, 60), boxAt(29, 29, 60, 60), boxAt(-89, -89, 60, 60), boxAt(30, 0, 60, 60), boxAt(0, -90, 60, 60), boxAt(-5, -30, 1, 60), boxAt(-30, 29, 60, 1)} {
		m := maskByRule(b, func(x int, y int) int { return (x*y ^ x>>2) & 15 })
		checkMeetMask(t, a, m, meetByHand(a, m))
		checkMeetMask(t, m, a, meetByHand(m, a))
	}
	for _, b := range maskBoxes {
		m := maskByRule(b, func(x int, y int) int { return (x + 5*y) & 15 })
		checkMeetMask(t, m, m, m)
		checkMeetMask(t, m, evenMask(b, 15), m)
		checkMeetMask(t, evenMask(b, 0), m, evenMask(b, 0))
	}
}

func TestMeetMaskOfWhatIsNotRight(t *testing.T) {
	for _, wrong := range wrongMasks() {
		for _, right := range []impl.Mask{{}, evenMask(boxAt(0, 0, 1, 1), 15), evenMask(boxAt(-30, -30, 60, 60), 9), evenMask(boxAt(1990, -2000, 10, 4), 15), evenMask(boxAt(-2000, 0, 2, 2), 15)} {
			checkMeetMask(t, wrong, right, impl.Mask{})
			checkMeetMask(t, right, wrong, impl.Mask{})
		}
		checkMeetMask(t, wrong, wrong, impl.Mask{})
	}
	for _, right := range rightMasks() {
		checkMeetMask(t, right, impl.Mask{}, impl.Mask{})
		checkMeetMask(t, impl.Mask{}, right, impl.Mask{})
	}
}

func TestRunsOfWrittenOut(t *testing.T) {
	for _, c := range []struct {
		m    impl.Mask
		want []impl.Run
	}{
		{impl.Mask{}, nil},
		{maskFrom(0, 0, "0"), nil},
		{maskFrom(0, 0, "f"), runsFrom(0, 0, 1, 15)},
		{maskFrom(-1, -1, "8"), runsFrom(-1, -1, 0, 8)},
		{maskFrom(0, 0, "f5"), runsFrom(0, 0, 1, 15, 0, 1, 2, 5)},
		{maskFrom(3, 7, "6666"), runsFrom(7, 3, 7, 6)},
		{maskFrom(3, 7, "1234"), runsFrom(7, 3, 4, 1, 7, 4, 5, 2, 7, 5, 6, 3, 7, 6, 7, 4)},
		{maskFrom(0, 0, "0033"), runsFrom(0, 2, 4, 3)},
		{maskFrom(0, 0, "3300"), runsFrom(0, 0, 2, 3)},
		{maskFrom(0, 0, "3003"), runsFrom(0, 0, 1, 3, 0, 3, 4, 3)},
		{maskFrom(0, 0, "033440550"), runsFrom(0, 1, 3, 3, 0, 3, 5, 4, 0, 6, 8, 5)},
		{maskFrom(0, 0, "33a33"), runsFrom(0, 0, 2, 3, 0, 2, 3, 10, 0, 3, 5, 3)},
		{maskFrom(-2, 5, "0000", "0000"), nil},
		{maskFrom(-2, 5, "0044", "4400"), runsFrom(5, 0, 2, 4, 6, -2, 0, 4)},
		{maskFrom(-2, 5, "4444", "4444"), runsFrom(5, -2, 2, 4, 6, -2, 2, 4)},
		{maskFrom(-2, 5, "0004", "4000", "0000", "000f"), runsFrom(5, 1, 2, 4, 6, -2, -1, 4, 8, 1, 2, 15)},
		{maskFrom(-5, -4, "1", "1", "0", "2"), runsFrom(-4, -5, -4, 1, -3, -5, -4, 1, -1, -5, -4, 2)},
		{maskFrom(1998, -2000, "77", "70"), runsFrom(-2000, 1998, 2000, 7, -1999, 1998, 1999, 7)},
	} {
		checkRunsOf(t, c.m, c.want)
	}
}

func TestRunsOfRowsOfAllKinds(t *testing.T) {
	for number := range 4 * 4 * 4 * 4 * 4 * 4 {
		m := maskByRule(boxAt(-1, -1, 3, 2), func(x int, y int) int {
			return []int{0, 1, 8, 15}[number>>(2*(3*(y+1)+x+1))&3]
		})
		checkRunsOf(t, m, runsByHand(m))
	}
	for _, m := range rightMasks() {
		checkRunsOf(t, m, runsByHand(m))
	}
}

func TestRunsOfGreatMasks(t *testing.T) {
	for bits := 1; bits < 16; bits++ {
		want := []impl.Run{}
		for y := -30; y < 30; y++ {
			want = append(want, impl.Run{Y: y, X0: 5, X1: 65, Bits: bits})
		}
		checkRunsOf(t, evenMask(boxAt(5, -30, 60, 60), bits), want)
	}
	checkered := maskByRule(boxAt(0, 0, 60, 60), func(x int, y int) int { return 1 + (x+y)&1 })
	if got := len(impl.RunsOf(checkered)); got != 3600 {
		t.Errorf("RunsOf a mask of other bits at each square has %d runs, want 3600", got)
	}
}

func TestRunsOfWhatIsNotRight(t *testing.T) {
	for _, m := range wrongMasks() {
		checkRunsOf(t, m, nil)
	}
}

func TestMaskByWrittenOut(t *testing.T) {
	for _, c := range []struct {
		runs []impl.Run
		want impl.Mask
	}{
		{nil, impl.Mask{}},
		{nil, maskFrom(0, 0, "0")},
		{nil, maskFrom(-4, 9, "000", "000")},
		{runsFrom(0, 0, 1, 15), maskFrom(0, 0, "f")},
		{runsFrom(0, 0, 1, 15, 0, 1, 2, 5), maskFrom(0, 0, "f5")},
		{runsFrom(0, 1, 3, 3, 0, 3, 5, 4, 0, 6, 8, 5), maskFrom(0, 0, "033440550")},
		{runsFrom(5, 0, 2, 4, 6, -2, 0, 4), maskFrom(-2, 5, "0044", "4400")},
		{runsFrom(6, -2, 2, 1), maskFrom(-2, 5, "0000", "1111", "0000")},
		{runsFrom(-2000, 1998, 2000, 7, -1999, 1998, 1999, 7), maskFrom(1998, -2000, "77", "70")},
	} {
		checkMaskBy(t, c.want.Box, c.runs, c.want, true)
	}
}

// Of a right list of runs, one thing is made wrong at a time.
func TestMaskByOfOneWrongRun(t *testing.T) {
	b := boxAt(-2, 3, 6, 3)
	right := runsFrom(3, -2, 0, 5, 3, 0, 1, 9, 4, 0, 3, 15, 5, -1, 1, 2, 5, 2, 4, 2)
	checkMaskBy(t, b, right, maskFrom(-2, 3, "559000", "00fff0", "022022"), true)
	for place, run := range right {
		for _, wrong := range []impl.Run{
			{Y: run.Y, X0: run.X0, X1: run.X1, Bits: 0}, {Y: run.Y, X0: run.X0, X1: run.X1, Bits: 16}, {Y: run.Y, X0: run.X0, X1: run.X1, Bits: -1},
			{Y: run.Y, X0: run.X0, X1: run.X1, Bits: run.Bits + 16}, {Y: run.Y, X0: run.X0, X1: run.X1, Bits: run.Bits - 16}, {Y: run.Y, X0: run.X0, X1: run.X1, Bits: run.Bits + 1<<32},
			{Y: run.Y, X0: run.X0, X1: run.X0, Bits: run.Bits}, {Y: run.Y, X0: run.X1, X1: run.X1, Bits: run.Bits}, {Y: run.Y, X0: run.X1, X1: run.X0, Bits: run.Bits},
			{Y: run.Y, X0: -3, X1: run.X1, Bits: run.Bits}, {Y: run.Y, X0: run.X0, X1: 5, Bits: run.Bits}, {Y: run.Y, X0: -3, X1: 5, Bits: run.Bits},
			{Y: run.Y, X0: run.X0 + 6, X1: run.X1 + 6, Bits: run.Bits}, {Y: run.Y, X0: run.X0 - 6, X1: run.X1 - 6, Bits: run.Bits},
			{Y: 2, X0: run.X0, X1: run.X1, Bits: run.Bits}, {Y: 6, X0: run.X0, X1: run.X1, Bits: run.Bits},
		} {
			runs := slices.Clone(right)
			runs[place] = wrong
			checkNoMaskBy(t, b, runs)
			checkNoMaskBy(t, b, slices.Insert(slices.Clone(right), place, wrong))
			checkNoMaskBy(t, b, []impl.Run{wrong})
		}
		checkNoMaskBy(t, b, slices.Insert(slices.Clone(right), place, run))
		checkNoMaskBy(t, b, append(slices.Clone(right), run))
		for other := range place {
			turned := slices.Clone(right)
			turned[place], turned[other] = turned[other], turned[place]
			checkNoMaskBy(t, b, turned)
		}
	}
}

// One that is left out makes another mask: that without its squares.
func TestMaskByOfOneRunLess(t *testing.T) {
	whole := maskFrom(-2, 3, "559000", "00fff0", "022022")
	runs := impl.RunsOf(whole)
	for place, gone := range runs {
		less := impl.Mask{Box: whole.Box, Bits: slices.Clone(whole.Bits)}
		for x := gone.X0; x < gone.X1; x++ {
			less.Bits[6*(gone.Y-3)+x+2] = 0
		}
		checkMaskBy(t, whole.Box, slices.Delete(slices.Clone(runs), place, place+1), less, true)
	}
}

func TestMaskByOfRunsThatMeetOrCouldGoOn(t *testing.T) {
	b := boxAt(0, 0, 6, 2)
	for _, runs := range [][]impl.Run{
		runsFrom(0, 0, 2, 5, 0, 2, 4, 5),
		runsFrom(0, 0, 1, 5, 0, 1, 2, 5),
		runsFrom(0, 0, 3, 5, 0, 2, 4, 5),
		runsFrom(0, 0, 3, 5, 0, 2, 4, 6),
		runsFrom(0, 0, 6, 5, 0, 2, 4, 6),
		runsFrom(0, 2, 4, 6, 0, 0, 6, 5),
		runsFrom(0, 0, 6, 5, 0, 0, 6, 5),
		runsFrom(0, 0, 6, 5, 0, 0, 6, 6),
		runsFrom(0, 0, 2, 5, 0, 1, 2, 5),
		runsFrom(0, 3, 4, 5, 0, 0, 1, 5),
		runsFrom(1, 0, 2, 5, 0, 0, 2, 5),
		runsFrom(1, 0, 2, 5, 0, 4, 6, 9),
		runsFrom(0, 5, 8, 5),
		runsFrom(0, 0, 12, 5),
		runsFrom(0, 6, 7, 5),
		runsFrom(1, -1, 0, 5),
		runsFrom(1, -6, 6, 5),
	} {
		checkNoMaskBy(t, b, runs)
	}
	checkMaskBy(t, b, runsFrom(0, 4, 6, 5, 1, 0, 2, 5), maskFrom(0, 0, "000055", "550000"), true)
	checkMaskBy(t, b, runsFrom(0, 0, 2, 5, 0, 3, 4, 5), maskFrom(0, 0, "550500", "000000"), true)
	checkMaskBy(t, b, runsFrom(0, 0, 2, 5, 0, 2, 4, 6), maskFrom(0, 0, "556600", "000000"), true)
}

func TestMaskByOfWrongBoxes(t *testing.T) {
	lists := [][]impl.Run{nil, {}, runsFrom(0, 0, 1, 15), runsFrom(0, 0, 0, 0), runsFrom(-1, -1, 0, 5), runsFrom(0, 0, 61, 3), runsFrom(0, 2000, 2001, 1), runsFrom(2000, 0, 1, 1), runsFrom(0, -2001, -2000, 1), runsFrom(-2001, 0, 1, 1), make([]impl.Run, 3600)}
	for _, b := range slices.Concat(emptyMaskBoxes, wrongMaskBoxes) {
		for _, runs := range lists {
			checkNoMaskBy(t, b, runs)
		}
		checkNoMaskBy(t, b, runsFrom(b.Y0, b.X0, b.X1, 7))
		checkNoMaskBy(t, b, runsFrom(b.Y0, b.X0, b.X0+1, 7))
	}
	checkMaskBy(t, impl.Box{}, nil, impl.Mask{}, true)
	checkMaskBy(t, impl.Box{}, []impl.Run{}, impl.Mask{}, true)
	for _, runs := range lists[2:] {
		checkNoMaskBy(t, impl.Box{}, runs)
	}
}

func TestMaskByOfNumbersWithoutMeasure(t *testing.T) {
	far := []int{math.MinInt, math.MinInt + 1, -1 << 62, -1 << 32, 1 << 32, 1 << 62, math.MaxInt - 1, math.MaxInt}
	for _, b := range []impl.Box{{}, boxAt(0, 0, 1, 1), boxAt(-3, -2, 6, 5), boxAt(-2000, -2000, 60, 60), boxAt(1940, 1940, 60, 60)} {
		right := impl.Run{Y: b.Y0, X0: b.X0, X1: b.X1, Bits: 15}
		for _, n := range far {
			for _, other := range far {
				for _, run := range []impl.Run{
					{Y: n, X0: right.X0, X1: right.X1, Bits: 15}, {Y: right.Y, X0: n, X1: right.X1, Bits: 15}, {Y: right.Y, X0: right.X0, X1: n, Bits: 15}, {Y: right.Y, X0: right.X0, X1: right.X1, Bits: n},
					{Y: right.Y, X0: n, X1: other, Bits: 15}, {Y: n, X0: other, X1: right.X1, Bits: 15}, {Y: n, X0: right.X0, X1: other, Bits: 15}, {Y: n, X0: other, X1: n, Bits: other},
				} {
					checkNoMaskBy(t, b, []impl.Run{run})
					checkNoMaskBy(t, b, []impl.Run{right, run})
					checkNoMaskBy(t, b, []impl.Run{run, right})
				}
			}
		}
	}
}

func TestMaskByOfVeryManyRuns(t *testing.T) {
	b := boxAt(-30, -30, 60, 60)
	checkered := maskByRule(b, func(x int, y int) int { return 1 + (x+y)&1 })
	runs := runsByHand(checkered)
	checkMaskBy(t, b, runs, checkered, true)
	checkNoMaskBy(t, b, append(slices.Clone(runs), runs[3599]))
	checkNoMaskBy(t, b, append(slices.Clone(runs), impl.Run{}))
	for _, b := range []impl.Box{{}, boxAt(0, 0, 1, 1), b} {
		for _, run := range []impl.Run{{}, {Y: b.Y0, X0: b.X0, X1: b.X1, Bits: 15}, {Y: b.Y0, X0: b.X0, X1: b.X0 + 1, Bits: 1}, {Y: math.MinInt, X0: math.MinInt, X1: math.MaxInt, Bits: 15}} {
			if _, ok := impl.MaskBy(b, slices.Repeat([]impl.Run{run}, 1000000)); ok {
				t.Errorf("MaskBy(%v, ..) takes very many runs %v", b, run)
			}
		}
	}
	checkNoMaskBy(t, boxAt(0, 0, 2, 1), runsFrom(0, 0, 1, 1, 0, 1, 2, 2, 0, 0, 1, 1))
}

// A short list of runs as a value.
type fewRuns struct {
	count int
	runs  [4]impl.Run
}

func fewOf(runs []impl.Run) fewRuns {
	few := fewRuns{count: len(runs)}
	copy(few.runs[:], runs)
	return few
}

// All masks of these bits in a box of at most four squares, by their runs.
func masksByTheirRuns(b impl.Box, kinds []int) map[fewRuns]impl.Mask {
	count := (b.X1 - b.X0) * (b.Y1 - b.Y0)
	number := 1
	for range count {
		number *= len(kinds)
	}
	masks := map[fewRuns]impl.Mask{}
	for i := range number {
		m := impl.Mask{Box: b}
		for range count {
			m.Bits = append(m.Bits, kinds[i%len(kinds)])
			i /= len(kinds)
		}
		masks[fewOf(runsByHand(m))] = m
	}
	return masks
}

func checkMaskBySearch(t *testing.T, masks map[fewRuns]impl.Mask, b impl.Box, runs []impl.Run) {
	t.Helper()
	want, wantOk := masks[fewOf(runs)]
	got, ok := impl.MaskBy(b, runs)
	if ok != wantOk || !sameMask(got, want) {
		t.Errorf("MaskBy(%v, %v) = %v, %v, want %v, %v", b, runs, got, ok, want, wantOk)
	}
}

func runsWithin(low int, high int, kinds []int) []impl.Run {
	runs := []impl.Run{}
	for _, b := range boxesWithin(low, high) {
		// The fourth number of the box picks the bits.
		if b.Y1-low < len(kinds) {
			runs = append(runs, impl.Run{Y: b.Y0, X0: b.X0, X1: b.X1, Bits: kinds[b.Y1-low]})
		}
	}
	return runs
}

// Every short list of runs is held against the runs of every mask that there is.
func TestMaskByOfAllShortLists(t *testing.T) {
	square := boxAt(0, 0, 2, 2)
	masks := masksByTheirRuns(square, []int{0, 1, 15})
	all := runsWithin(-1, 3, []int{-1, 0, 1, 15, 16})
	for _, a := range all {
		checkMaskBySearch(t, masks, square, []impl.Run{a})
		for _, b := range all {
			checkMaskBySearch(t, masks, square, []impl.Run{a, b})
		}
	}
	strip := boxAt(-1, 1, 3, 1)
	masks = masksByTheirRuns(strip, []int{0, 1, 15})
	near := runsWithin(-1, 2, []int{1, 15})
	for _, a := range near {
		for _, b := range near {
			for _, c := range near {
				checkMaskBySearch(t, masks, strip, []impl.Run{a, b, c})
			}
		}
	}
}

func linesOfPromise11(t *testing.T) [][][]impl.Point {
	t.Helper()
	flat := impl.FlatOf(pathOf(t, "M -1600 -300 C 1900 -2900 -1700 3200 1500 600 Z M 0 0 Q 700 -100 300 800 Z"))
	return [][][]impl.Point{nil, {around(-700, -300, 500, 1200)}, {placesOf(0, -1000, 590, 810, -950, -310, 950, -310, -590, 810)}, flat, impl.StrokeOf(flat, 200), {around(-boxFar, -boxFar, boxFar, boxFar)}}
}

func masksOfPromise11(t *testing.T) []impl.Mask {
	t.Helper()
	masks := rightMasks()
	for _, lines := range linesOfPromise11(t) {
		for _, b := range []impl.Box{boxAt(-8, -8, 16, 16), boxAt(-3, 0, 9, 2), boxAt(0, -5, 1, 9), boxAt(-20, -30, 60, 60)} {
			masks = append(masks, impl.MaskOf(lines, false, b), impl.MaskOf(lines, true, b))
		}
	}
	return masks
}

func TestPromise11MasksComeBackFromTheirRuns(t *testing.T) {
	for _, m := range masksOfPromise11(t) {
		checkMaskBy(t, m.Box, impl.RunsOf(m), m, true)
	}
	for number := range 3 * 3 * 3 * 3 * 3 * 3 {
		m := impl.Mask{Box: boxAt(-2, 4, 3, 2)}
		for range 6 {
			m.Bits = append(m.Bits, []int{0, 6, 15}[number%3])
			number /= 3
		}
		checkMaskBy(t, m.Box, impl.RunsOf(m), m, true)
	}
}

func TestPromise11WhatTwoMasksMeetInBothHave(t *testing.T) {
	masks := masksOfPromise11(t)
	for i, a := range masks {
		for _, b := range masks[i%5:] {
			if len(a.Bits)+len(b.Bits) > 300 && i%7 != 0 {
				continue
			}
			met := impl.MeetMask(a, b)
			if !impl.MaskOk(met) || met.Box != impl.MeetBox(a.Box, b.Box) {
				t.Errorf("MeetMask of %v and %v is %v", a.Box, b.Box, met)
			}
			checkBothHave(t, a, b, met)
		}
	}
}

// No bit of what is met is missing in one of the two, and none that both have is missing in it.
func checkBothHave(t *testing.T, a impl.Mask, b impl.Mask, met impl.Mask) {
	t.Helper()
	for y := a.Box.Y0; y < a.Box.Y1; y++ {
		for x := a.Box.X0; x < a.Box.X1; x++ {
			if got, want := bitsByHand(met, x, y), bitsByHand(a, x, y)&bitsByHand(b, x, y); got != want {
				t.Errorf("MeetMask(%v, %v) has bits %d at %d, %d, want %d", a, b, got, x, y, want)
			}
		}
	}
}

func TestMasksLeaveTheirLinesAndTheRoomBehindThem(t *testing.T) {
	room := append(around(0, 0, 256, 256), placesOf(900, 901, 902, 903)...)
	before := slices.Clone(room)
	all := [][]impl.Point{room[:4], room[1:4], room[:4], room[4:6]}
	for _, b := range append(slices.Clone(maskBoxes), wholeBox, impl.Box{}) {
		impl.MaskOf(all[:2], false, b)
		impl.MaskOf(all[:2], true, b)
	}
	if !slices.Equal(room, before) {
		t.Errorf("the room of the points became %v", room)
	}
	if !sameLines(all, [][]impl.Point{before[:4], before[1:4], before[:4], before[4:6]}) {
		t.Errorf("the room of the lists became %v", all)
	}
}

// An answer is written over, with all of its room: arguments and later answers stay as they were.
func TestMasksAnswerInNewMemory(t *testing.T) {
	lines := [][]impl.Point{around(0, 0, 640, 384)}
	b := boxAt(-1, -1, 5, 4)
	of := impl.MaskOf(lines, false, b)
	again := impl.MaskOf(lines, false, b)
	runs := impl.RunsOf(again)
	runsAgain := impl.RunsOf(again)
	by, _ := impl.MaskBy(b, runs)
	byAgain, _ := impl.MaskBy(b, runs)
	met := impl.MeetMask(again, again)
	metAgain := impl.MeetMask(again, again)
	metOther := impl.MeetMask(again, by)
	want := maskFrom(-1, -1, "00000", "0ff50", "03310", "00000")
	wantRuns := runsFrom(0, 0, 2, 15, 0, 2, 3, 5, 1, 0, 2, 3, 1, 2, 3, 1)
	overwrite(of.Bits, 99)
	overwrite(met.Bits, 98)
	overwrite(by.Bits, 97)
	overwrite(runs, impl.Run{Y: 96, X0: 96, X1: 96, Bits: 96})
	for _, m := range []impl.Mask{again, byAgain, metAgain, metOther, impl.MaskOf(lines, false, b), impl.MeetMask(again, byAgain)} {
		if !sameMask(m, want) {
			t.Errorf("an answer that was not changed became %v, want %v", m, want)
		}
	}
	if !slices.Equal(runsAgain, wantRuns) || !slices.Equal(impl.RunsOf(again), wantRuns) {
		t.Errorf("runs that were not changed became %v, want %v", runsAgain, wantRuns)
	}
	if !sameLines(lines, [][]impl.Point{around(0, 0, 640, 384)}) {
		t.Errorf("the lines became %v", lines)
	}
}

// Masks without anything are answers too, each of its own.
func TestMasksWithoutAnythingAnswerInNewMemory(t *testing.T) {
	right := evenMask(boxAt(0, 0, 2, 2), 15)
	for range 2 {
		none, _ := impl.MaskBy(impl.Box{}, nil)
		refused, _ := impl.MaskBy(impl.Box{}, runsFrom(0, 0, 1, 1))
		for _, m := range []impl.Mask{none, refused, impl.MaskOf(nil, false, impl.Box{}), impl.MeetMask(right, impl.Mask{}), impl.MeetMask(impl.Mask{}, right)} {
			if !sameMask(m, impl.Mask{}) {
				t.Errorf("a mask without anything is %v", m)
			}
			overwrite(append(m.Bits, 1), 9)
		}
		overwrite(append(impl.RunsOf(impl.Mask{}), impl.Run{}), impl.Run{Y: 9})
		checkRunsOf(t, impl.Mask{}, nil)
	}
	if !sameMask(right, evenMask(boxAt(0, 0, 2, 2), 15)) {
		t.Errorf("the mask became %v", right)
	}
}
