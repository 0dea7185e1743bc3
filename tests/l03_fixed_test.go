package tests

import (
	"math"
	"math/big"
	"testing"

	"loop.example/g00190/impl"
)

// Numbers at which a quotient, a rest or twice a rest may go wrong.
var wholeEdges = []int{
	math.MinInt, math.MinInt + 1, math.MinInt + 2, math.MinInt/2 - 1, math.MinInt / 2, math.MinInt/2 + 1,
	-1 << 53, -3037000500, -1 << 32, -65536, -256, -255, -128, -100, -8, -7, -3, -2, -1, 0,
	1, 2, 3, 7, 8, 100, 127, 128, 254, 255, 256, 257, 65535, 65536, 8388608, 1<<32 - 1, 1 << 32, 3037000499, 3037000500, 1 << 53,
	math.MaxInt/3 - 1, math.MaxInt / 3, math.MaxInt/3 + 1, math.MaxInt/2 - 1, math.MaxInt / 2, math.MaxInt/2 + 1, math.MaxInt/2 + 2,
	math.MaxInt - 2, math.MaxInt - 1, math.MaxInt,
}

func checkFloorDiv(t *testing.T, a int, b int, want int) {
	t.Helper()
	if got := impl.FloorDiv(a, b); got != want {
		t.Errorf("FloorDiv(%d, %d) = %d, want %d", a, b, got, want)
	}
}

func checkRoundDiv(t *testing.T, a int, b int, want int) {
	t.Helper()
	if got := impl.RoundDiv(a, b); got != want {
		t.Errorf("RoundDiv(%d, %d) = %d, want %d", a, b, got, want)
	}
}

func checkRootOf(t *testing.T, n int, want int) {
	t.Helper()
	if got := impl.RootOf(n); got != want {
		t.Errorf("RootOf(%d) = %d, want %d", n, got, want)
	}
}

func checkClamp(t *testing.T, x int, low int, high int, want int) {
	t.Helper()
	if got := impl.Clamp(x, low, high); got != want {
		t.Errorf("Clamp(%d, %d, %d) = %d, want %d", x, low, high, got, want)
	}
}

func checkTimes255(t *testing.T, a int, b int, want int) {
	t.Helper()
	if got := impl.Times255(a, b); got != want {
		t.Errorf("Times255(%d, %d) = %d, want %d", a, b, got, want)
	}
}

// Euclid's quotient is the one down for every b above 0, in numbers that never wrap round.
func floorByLibrary(a *big.Int, b int) int {
	return int(new(big.Int).Div(a, big.NewInt(int64(b))).Int64())
}

// To the nearest, the greater of two: twice a and b, down by twice b.
func roundByLibrary(a int, b int) int {
	twice := new(big.Int).Lsh(big.NewInt(int64(a)), 1)
	twice.Add(twice, big.NewInt(int64(b)))
	by := new(big.Int).Lsh(big.NewInt(int64(b)), 1)
	return int(new(big.Int).Div(twice, by).Int64())
}

func TestWholeNumberConstants(t *testing.T) {
	if impl.One != 256 || impl.Far != 8388608 {
		t.Errorf("One %d and Far %d, want 256 and 8388608", impl.One, impl.Far)
	}
}

func TestFloorDivWrittenOut(t *testing.T) {
	for _, c := range [][3]int{
		{7, 2, 3}, {6, 2, 3}, {1, 2, 0}, {0, 2, 0}, {-1, 2, -1}, {-2, 2, -1}, {-3, 2, -2}, {-6, 2, -3}, {-7, 2, -4}, {-8, 2, -4},
		{-1, 3, -1}, {-2, 3, -1}, {-3, 3, -1}, {-4, 3, -2}, {-255, 256, -1}, {-256, 256, -1}, {-257, 256, -2}, {255, 256, 0}, {256, 256, 1},
		{0, 1, 0}, {5, 1, 5}, {-5, 1, -5}, {0, math.MaxInt, 0}, {1, math.MaxInt, 0}, {-1, math.MaxInt, -1},
		{math.MaxInt, 1, math.MaxInt}, {math.MinInt, 1, math.MinInt}, {math.MaxInt, 2, 4611686018427387903}, {math.MinInt, 2, -4611686018427387904},
		{math.MinInt + 1, 2, -4611686018427387904}, {math.MinInt, 3, -3074457345618258603}, {math.MaxInt, 3, 3074457345618258602},
		{math.MaxInt, math.MaxInt, 1}, {math.MaxInt - 1, math.MaxInt, 0}, {-math.MaxInt, math.MaxInt, -1}, {math.MinInt, math.MaxInt, -2},
		{math.MinInt, math.MaxInt - 1, -2}, {math.MaxInt, math.MaxInt - 1, 1},
	} {
		checkFloorDiv(t, c[0], c[1], c[2])
	}
}

func TestRoundDivWrittenOut(t *testing.T) {
	for _, c := range [][3]int{
		{7, 2, 4}, {6, 2, 3}, {1, 2, 1}, {0, 2, 0}, {-1, 2, 0}, {-2, 2, -1}, {-3, 2, -1}, {-5, 2, -2}, {-7, 2, -3},
		{1, 3, 0}, {2, 3, 1}, {4, 3, 1}, {5, 3, 2}, {-1, 3, 0}, {-2, 3, -1}, {-4, 3, -1}, {-5, 3, -2},
		{1, 4, 0}, {2, 4, 1}, {3, 4, 1}, {6, 4, 2}, {-1, 4, 0}, {-2, 4, 0}, {-3, 4, -1}, {-6, 4, -1}, {-7, 4, -2},
		{127, 256, 0}, {128, 256, 1}, {-128, 256, 0}, {-129, 256, -1}, {-384, 256, -1}, {-385, 256, -2},
		{0, 1, 0}, {5, 1, 5}, {-5, 1, -5}, {math.MaxInt, 1, math.MaxInt}, {math.MinInt, 1, math.MinInt},
		{math.MaxInt, 2, 4611686018427387904}, {math.MaxInt - 1, 2, 4611686018427387903}, {math.MinInt, 2, -4611686018427387904}, {math.MinInt + 1, 2, -4611686018427387903},
		{math.MaxInt, math.MaxInt, 1}, {math.MinInt, math.MaxInt, -1}, {math.MaxInt, math.MaxInt - 1, 1}, {math.MinInt, math.MaxInt - 1, -1},
		{4611686018427387903, math.MaxInt, 0}, {4611686018427387904, math.MaxInt, 1}, {-4611686018427387903, math.MaxInt, 0}, {-4611686018427387904, math.MaxInt, -1},
		{4611686018427387903, math.MaxInt - 1, 1}, {-4611686018427387903, math.MaxInt - 1, 0}, {4611686018427387902, math.MaxInt - 1, 0}, {-4611686018427387904, math.MaxInt - 1, -1},
	} {
		checkRoundDiv(t, c[0], c[1], c[2])
	}
}

func TestDivisionsByNothing(t *testing.T) {
	for _, b := range []int{0, -1, -2, -3, -255, -256, math.MinInt + 1, math.MinInt} {
		for _, a := range wholeEdges {
			checkFloorDiv(t, a, b, 0)
			checkRoundDiv(t, a, b, 0)
		}
	}
}

func TestDivisionsOfSmallNumbers(t *testing.T) {
	for b := 1; b <= 40; b++ {
		for a := -400; a <= 400; a++ {
			checkFloorDiv(t, a, b, floorByLibrary(big.NewInt(int64(a)), b))
			checkRoundDiv(t, a, b, roundByLibrary(a, b))
		}
	}
}

func TestDivisionsOfEdges(t *testing.T) {
	for _, b := range wholeEdges {
		if b < 1 {
			continue
		}
		for _, a := range wholeEdges {
			checkFloorDiv(t, a, b, floorByLibrary(big.NewInt(int64(a)), b))
			checkRoundDiv(t, a, b, roundByLibrary(a, b))
		}
	}
}

// Around each half of an odd and an even b, above and below 0, where two may be as near.
func TestRoundDivAroundHalves(t *testing.T) {
	for _, b := range []int{2, 3, 4, 5, 255, 256, 511, 512, 65535, 65536, 1<<40 - 1, 1 << 40} {
		for times := -5; times <= 5; times++ {
			for more := -2; more <= 2; more++ {
				a := times*b + b/2 + more
				checkRoundDiv(t, a, b, roundByLibrary(a, b))
			}
		}
	}
}

// Promise 3, of quotients down: q b is not above a, and (q + 1) b is.
func TestPromise3Down(t *testing.T) {
	one := big.NewInt(1)
	for _, n := range wholeEdges {
		for _, m := range wholeEdges {
			if m < 1 {
				continue
			}
			a, b, q := big.NewInt(int64(n)), big.NewInt(int64(m)), big.NewInt(int64(impl.FloorDiv(n, m)))
			fits := new(big.Int).Mul(q, b)
			past := new(big.Int).Mul(new(big.Int).Add(q, one), b)
			if fits.Cmp(a) > 0 || past.Cmp(a) <= 0 {
				t.Errorf("FloorDiv(%d, %d) = %d is not the greatest that fits", n, m, q)
			}
		}
	}
}

// Promise 3, of quotients to the nearest: twice (q b - a) is in -b+1 .. b, so that of two that are as near it is the greater.
func TestPromise3Nearest(t *testing.T) {
	for _, n := range wholeEdges {
		for _, m := range wholeEdges {
			if m < 1 {
				continue
			}
			a, b, q := big.NewInt(int64(n)), big.NewInt(int64(m)), big.NewInt(int64(impl.RoundDiv(n, m)))
			off := new(big.Int).Mul(q, b)
			off.Sub(off, a).Lsh(off, 1)
			if off.Cmp(b) > 0 || off.Cmp(new(big.Int).Neg(b)) <= 0 {
				t.Errorf("RoundDiv(%d, %d) = %d is too far away", n, m, q)
			}
		}
	}
}

func TestRootOfWrittenOut(t *testing.T) {
	for _, c := range [][2]int{
		{0, 0}, {1, 1}, {2, 1}, {3, 1}, {4, 2}, {5, 2}, {8, 2}, {9, 3}, {15, 3}, {16, 4}, {99, 9}, {100, 10}, {101, 10}, {65535, 255}, {65536, 256}, {65537, 256},
		{1<<62 - 1, 1<<31 - 1}, {1 << 62, 1 << 31}, {1<<62 + 1, 1 << 31},
		{9223372030926249000, 3037000498}, {9223372030926249001, 3037000499}, {9223372030926249002, 3037000499},
		{math.MaxInt - 1, 3037000499}, {math.MaxInt, 3037000499},
	} {
		checkRootOf(t, c[0], c[1])
	}
}

func TestRootOfBelowNothing(t *testing.T) {
	for _, n := range wholeEdges {
		if n < 0 {
			checkRootOf(t, n, 0)
		}
	}
}

func TestRootOfSmallNumbers(t *testing.T) {
	root := 0
	for n := range 20000 {
		if (root+1)*(root+1) == n {
			root++
		}
		checkRootOf(t, n, root)
	}
}

// Squares, one less and one more, of roots of every size.
func TestRootOfAroundSquares(t *testing.T) {
	for size := 2; size <= 3037000499; size += size/3 + 1 {
		for root := max(size-2, 2); root <= min(size+2, 3037000499); root++ {
			checkRootOf(t, root*root-1, root-1)
			checkRootOf(t, root*root, root)
			checkRootOf(t, root*root+1, root)
		}
	}
}

// Promise 3, of roots: the square is not above n, that of the next one is.
func TestPromise3Root(t *testing.T) {
	one := big.NewInt(1)
	for _, m := range wholeEdges {
		if m < 0 {
			continue
		}
		n, root := big.NewInt(int64(m)), big.NewInt(int64(impl.RootOf(m)))
		next := new(big.Int).Add(root, one)
		if root.Sign() < 0 || new(big.Int).Mul(root, root).Cmp(n) > 0 || next.Mul(next, next).Cmp(n) <= 0 {
			t.Errorf("RootOf(%d) = %d is not the greatest whose square is not above", m, root)
		}
	}
}

func TestClampWrittenOut(t *testing.T) {
	for _, c := range [][4]int{
		{0, 1, 5, 1}, {1, 1, 5, 1}, {2, 1, 5, 2}, {4, 1, 5, 4}, {5, 1, 5, 5}, {6, 1, 5, 5}, {9, 1, 5, 5},
		{-9, -5, -1, -5}, {-5, -5, -1, -5}, {-3, -5, -1, -3}, {-1, -5, -1, -1}, {0, -5, -1, -1},
		{2, 3, 3, 3}, {3, 3, 3, 3}, {4, 3, 3, 3},
		{math.MinInt, -5, 5, -5}, {math.MaxInt, -5, 5, 5}, {math.MinInt, math.MinInt, math.MaxInt, math.MinInt}, {math.MaxInt, math.MinInt, math.MaxInt, math.MaxInt},
		{0, math.MinInt, math.MaxInt, 0}, {0, math.MaxInt, math.MaxInt, math.MaxInt}, {0, math.MinInt, math.MinInt, math.MinInt},
	} {
		checkClamp(t, c[0], c[1], c[2], c[3])
	}
}

// With low above high the order of the words tells: low is asked first, and what is not below it is above high.
func TestClampLowAboveHigh(t *testing.T) {
	for _, c := range [][4]int{
		{0, 5, 1, 5}, {1, 5, 1, 5}, {3, 5, 1, 5}, {4, 5, 1, 5}, {5, 5, 1, 1}, {6, 5, 1, 1}, {9, 5, 1, 1},
		{-1, 0, -1, 0}, {0, 0, -1, -1}, {math.MinInt, math.MaxInt, math.MinInt, math.MaxInt}, {math.MaxInt, math.MaxInt, math.MinInt, math.MinInt},
	} {
		checkClamp(t, c[0], c[1], c[2], c[3])
	}
}

func TestTimes255WrittenOut(t *testing.T) {
	for _, c := range [][3]int{
		{0, 0, 0}, {0, 255, 0}, {255, 0, 0}, {255, 255, 255}, {128, 255, 128}, {255, 128, 128}, {1, 1, 0}, {1, 127, 0}, {1, 128, 1}, {127, 1, 0}, {128, 1, 1},
		{128, 128, 64}, {100, 100, 39}, {254, 254, 253}, {254, 255, 254}, {16, 16, 1}, {15, 17, 1}, {11, 11, 0}, {12, 11, 1},
	} {
		checkTimes255(t, c[0], c[1], c[2])
	}
}

// The nearest to a times b by 255 is never as near as another one: 255 is odd, so adding 127 and dividing down finds it.
func TestTimes255OfAllThatAreRight(t *testing.T) {
	for a := range 256 {
		for b := range 256 {
			checkTimes255(t, a, b, (a*b+127)/255)
		}
	}
}

func TestTimes255TakesIn(t *testing.T) {
	for _, low := range []int{-1, -2, -255, -256, math.MinInt + 1, math.MinInt} {
		for _, b := range wholeEdges {
			checkTimes255(t, low, b, 0)
			checkTimes255(t, b, low, 0)
		}
	}
	for _, high := range []int{255, 256, 257, 510, 65536, math.MaxInt - 1, math.MaxInt} {
		for b := range 256 {
			checkTimes255(t, high, b, b)
			checkTimes255(t, b, high, b)
		}
		checkTimes255(t, high, math.MaxInt, 255)
		checkTimes255(t, math.MaxInt, high, 255)
	}
}
