package fix_test

import (
	"math"
	"math/big"
	"math/rand/v2"
	"slices"
	"testing"

	"athanor/fix"
)

// edges are the integers around each place where a computation changes its way: signs, ties, powers of 2, saturation.
func edges() []int64 {
	l := []int64{0, 3, 5, 7, 10, 1_000_003, 46341 << 16, 3 << 31, 5 << 31, 3 << 61}
	for _, bit := range []int{0, 1, 15, 16, 30, 31, 32, 33, 47, 61, 62} {
		p := int64(1) << bit
		l = append(l, p-1, p, p+1)
	}
	l = append(l, math.MaxInt64, math.MaxInt64-1)
	for _, x := range l[:len(l):len(l)] {
		l = append(l, -x)
	}
	return append(l, math.MinInt64)
}

// samples are pairs of all edges, and pseudorandom ones of all magnitudes.
func samples() [][2]int64 {
	var l [][2]int64
	for _, x := range edges() {
		for _, y := range edges() {
			l = append(l, [2]int64{x, y})
		}
	}
	r := rand.New(rand.NewPCG(1, 2))
	for range 20000 {
		x := int64(r.Uint64()) >> r.IntN(64)
		y := int64(r.Uint64()) >> r.IntN(64)
		l = append(l, [2]int64{x, y})
	}
	return l
}

// saturated is x, if an F can hold it; otherwise the nearest F.
func saturated(x *big.Int) fix.F {
	if x.IsInt64() {
		return fix.F(x.Int64())
	}
	if x.Sign() < 0 {
		return math.MinInt64
	}
	return math.MaxInt64
}

// rounded is a divided by b, rounded to the nearest integer, and to the even one in case of a tie.
func rounded(a, b *big.Int) *big.Int {
	if b.Sign() < 0 {
		a, b = new(big.Int).Neg(a), new(big.Int).Neg(b)
	}
	whole, rest := new(big.Int).DivMod(a, b, new(big.Int)) // rounded down
	side := new(big.Int).Lsh(rest, 1).Cmp(b)
	if side > 0 || side == 0 && whole.Bit(0) == 1 {
		whole.Add(whole, big.NewInt(1))
	}
	return whole
}

// divided is what the document says of a division of integers, whose result is a number.
func divided(a, b int64) fix.F {
	if b == 0 {
		return saturated(new(big.Int).Lsh(big.NewInt(a), 100)) // the sign of a, and too great; or 0
	}
	return saturated(rounded(new(big.Int).Lsh(big.NewInt(a), 32), big.NewInt(b)))
}

type pairCase struct{ x, y, want fix.F }

func checkPairs(t *testing.T, name string, f func(x, y fix.F) fix.F, l []pairCase) {
	t.Helper()
	for _, c := range l {
		if got := f(c.x, c.y); got != c.want {
			t.Errorf("%d %s %d: %d, not %d", c.x, name, c.y, got, c.want)
		}
	}
}

// checkSamples compares f with the exact result for all samples.
func checkSamples(t *testing.T, name string, f func(x, y fix.F) fix.F, want func(x, y int64) fix.F) {
	t.Helper()
	for _, s := range samples() {
		if got, want := f(fix.F(s[0]), fix.F(s[1])), want(s[0], s[1]); got != want {
			t.Fatalf("%d %s %d: %d, not %d", s[0], name, s[1], got, want)
		}
	}
}

func TestConstants(t *testing.T) {
	if fix.One != 4294967296 || fix.Max != math.MaxInt64 || fix.Min != math.MinInt64 {
		t.Errorf("One %d, Max %d, Min %d", fix.One, fix.Max, fix.Min)
	}
}

// P1.1

func TestInt(t *testing.T) {
	for _, c := range []struct {
		n    int
		want fix.F
	}{
		{0, 0}, {1, 4294967296}, {-1, -4294967296}, {7, 30064771072}, {-7, -30064771072},
		{2147483647, 9223372032559808512}, {-2147483647, -9223372032559808512},
		{2147483648, fix.Max}, {2147483649, fix.Max}, {1 << 32, fix.Max}, {1 << 40, fix.Max}, {math.MaxInt, fix.Max},
		{-2147483648, fix.Min}, {-2147483649, fix.Min}, {-1 << 32, fix.Min}, {-1 << 40, fix.Min}, {math.MinInt, fix.Min},
	} {
		if got := fix.Int(c.n); got != c.want {
			t.Errorf("Int(%d): %d, not %d", c.n, got, c.want)
		}
	}
}

func TestRatio(t *testing.T) {
	for _, c := range []struct {
		a, b int
		want fix.F
	}{
		{6, 3, 2 * fix.One}, {1, 2, fix.One / 2}, {-1, 2, -fix.One / 2}, {1, -2, -fix.One / 2}, {-1, -2, fix.One / 2},
		{1, 3, 1431655765}, {-1, 3, -1431655765}, {2, 3, 2863311531}, {-2, 3, -2863311531}, {0, 5, 0}, {0, -5, 0},
		// Ties: 2^32/2^33 is 0.5, 3 times that is 1.5.
		{1, 1 << 33, 0}, {3, 1 << 33, 2}, {5, 1 << 33, 2}, {-1, 1 << 33, 0}, {-3, 1 << 33, -2}, {5, -1 << 33, -2},
		// Just beside a tie.
		{1, 1<<33 - 1, 1}, {1, 1<<33 + 1, 0}, {-1, 1<<33 - 1, -1},
		// A divisor 0.
		{5, 0, fix.Max}, {1, 0, fix.Max}, {math.MaxInt, 0, fix.Max},
		{-5, 0, fix.Min}, {-1, 0, fix.Min}, {math.MinInt, 0, fix.Min}, {0, 0, 0},
		// Saturation.
		{1 << 31, 1, fix.Max}, {1<<31 - 1, 1, fix.Int(1<<31 - 1)}, {-1 << 31, 1, fix.Min}, {-1<<31 - 1, 1, fix.Min},
		{1 << 31, -1, fix.Min}, {-1 << 31, -1, fix.Max}, {math.MaxInt, 1, fix.Max}, {math.MinInt, 1, fix.Min},
		{math.MinInt, -1, fix.Max}, {math.MaxInt, -1, fix.Min},
		// The greatest arguments.
		{math.MaxInt, math.MaxInt, fix.One}, {math.MinInt, math.MinInt, fix.One},
		{math.MaxInt, math.MinInt, -fix.One}, {math.MinInt, math.MaxInt, -fix.One},
		{1, math.MaxInt, 0}, {1, math.MinInt, 0}, {math.MinInt, 1 << 32, -1 << 63},
	} {
		if got := fix.Ratio(c.a, c.b); got != c.want {
			t.Errorf("Ratio(%d, %d): %d, not %d", c.a, c.b, got, c.want)
		}
	}
	ratio := func(x, y fix.F) fix.F { return fix.Ratio(int(x), int(y)) }
	checkSamples(t, "Ratio", ratio, divided)
}

func TestAdd(t *testing.T) {
	checkPairs(t, "Add", fix.F.Add, []pairCase{
		{2, 3, 5}, {-2, 3, 1}, {-2, -3, -5}, {0, 0, 0},
		{fix.Max, 0, fix.Max}, {fix.Max, 1, fix.Max}, {1, fix.Max, fix.Max}, {fix.Max, fix.Max, fix.Max}, {fix.Max - 1, 1, fix.Max}, {fix.Max - 1, 2, fix.Max},
		{fix.Min, 0, fix.Min}, {fix.Min, -1, fix.Min}, {-1, fix.Min, fix.Min}, {fix.Min, fix.Min, fix.Min}, {fix.Min + 1, -1, fix.Min}, {fix.Min + 1, -2, fix.Min},
		{fix.Max, fix.Min, -1}, {fix.Min, fix.Max, -1}, {fix.Max, -1, fix.Max - 1}, {fix.Min, 1, fix.Min + 1},
	})
	checkSamples(t, "Add", fix.F.Add, func(x, y int64) fix.F {
		return saturated(new(big.Int).Add(big.NewInt(x), big.NewInt(y)))
	})
}

func TestSub(t *testing.T) {
	checkPairs(t, "Sub", fix.F.Sub, []pairCase{
		{5, 3, 2}, {3, 5, -2}, {-3, -5, 2}, {0, 0, 0},
		{fix.Max, 0, fix.Max}, {fix.Max, -1, fix.Max}, {fix.Max, fix.Min, fix.Max}, {fix.Max, fix.Max, 0},
		{fix.Min, 0, fix.Min}, {fix.Min, 1, fix.Min}, {fix.Min, fix.Max, fix.Min}, {fix.Min, fix.Min, 0},
		{0, fix.Min, fix.Max}, {-1, fix.Min, fix.Max}, {-2, fix.Min, fix.Max - 1}, {0, fix.Max, fix.Min + 1}, {-1, fix.Max, fix.Min}, {-2, fix.Max, fix.Min},
	})
	checkSamples(t, "Sub", fix.F.Sub, func(x, y int64) fix.F {
		return saturated(new(big.Int).Sub(big.NewInt(x), big.NewInt(y)))
	})
}

func TestNegAndAbs(t *testing.T) {
	for _, c := range []struct{ x, neg, abs fix.F }{
		{0, 0, 0}, {5, -5, 5}, {-5, 5, 5}, {fix.One, -fix.One, fix.One}, {-fix.One, fix.One, fix.One},
		{fix.Max, fix.Min + 1, fix.Max}, {fix.Min + 1, fix.Max, fix.Max}, {fix.Min, fix.Max, fix.Max},
	} {
		if got := c.x.Neg(); got != c.neg {
			t.Errorf("%d.Neg(): %d, not %d", c.x, got, c.neg)
		}
		if got := c.x.Abs(); got != c.abs {
			t.Errorf("%d.Abs(): %d, not %d", c.x, got, c.abs)
		}
	}
}

func TestFloor(t *testing.T) {
	half := fix.One / 2
	for _, c := range []struct {
		x    fix.F
		want int
	}{
		{0, 0}, {1, 0}, {half, 0}, {fix.One - 1, 0}, {fix.One, 1}, {fix.One + 1, 1}, {3 * half, 1},
		{-1, -1}, {-half, -1}, {-fix.One, -1}, {-fix.One - 1, -2}, {-3 * half, -2}, {-2 * fix.One, -2},
		{fix.Max, 2147483647}, {fix.Min, -2147483648}, {fix.Min + 1, -2147483648},
	} {
		if got := c.x.Floor(); got != c.want {
			t.Errorf("%d.Floor(): %d, not %d", c.x, got, c.want)
		}
	}
}

// P1.2

func TestMul(t *testing.T) {
	half := fix.One / 2
	checkPairs(t, "Mul", fix.F.Mul, []pairCase{
		{fix.One, fix.One, fix.One}, {1, 1, 0}, {0, fix.Max, 0}, {fix.Min, 0, 0},
		{fix.Int(3), fix.Int(-5), fix.Int(-15)}, {fix.Int(-3), fix.Int(-5), fix.Int(15)}, {fix.Int(3), half, 3 * half},
		// Ties, to the even one, on both sides of 0.
		{1, half, 0}, {3, half, 2}, {5, half, 2}, {7, half, 4}, {-1, half, 0}, {-3, half, -2}, {5, -half, -2}, {-7, -half, 4},
		// Just beside a tie.
		{1, half + 1, 1}, {1, half - 1, 0}, {3, half - 1, 1}, {5, half + 1, 3}, {-1, half + 1, -1}, {-3, half - 1, -1},
		// Saturation.
		{fix.Max, fix.One, fix.Max}, {fix.Min, fix.One, fix.Min}, {fix.Min, -fix.One, fix.Max}, {fix.Max, -fix.One, fix.Min + 1},
		{fix.Max, fix.One + 1, fix.Max}, {fix.Min, fix.One + 1, fix.Min}, {fix.Max, fix.Int(-2), fix.Min},
		{fix.Max, fix.Max, fix.Max}, {fix.Min, fix.Min, fix.Max}, {fix.Max, fix.Min, fix.Min}, {fix.Min, fix.Max, fix.Min},
		{fix.Int(46341), fix.Int(46341), fix.Max}, {fix.Int(46340), fix.Int(46340), fix.Int(2147395600)},
		{fix.Int(1 << 16), fix.Int(1 << 15), fix.Max}, {fix.Int(1 << 16), fix.Int(-1 << 15), fix.Min},
		// 2^32 times a magnitude that the 64 bits of an integer cannot hold.
		{fix.Int(1 << 16), fix.Int(1 << 16), fix.Max}, {fix.Int(1 << 16), fix.Int(-1 << 16), fix.Min},
		// Magnitudes just below 2^63 and 2^64, which rounding raises to these.
		{1<<62 + 1<<29, 1<<33 - 1, fix.Max}, {-1<<62 - 1<<29, 1<<33 - 1, fix.Min}, {1<<62 + 1<<29, 1<<34 - 2, fix.Max}, {-1<<62 - 1<<29, 1<<34 - 2, fix.Min},
		{fix.Max, fix.One - 1, fix.Max - 1<<31}, {1<<62 + 1, 2*fix.One - 1, fix.Max - 1<<30 + 3},
	})
	checkSamples(t, "Mul", fix.F.Mul, func(x, y int64) fix.F {
		product := new(big.Int).Mul(big.NewInt(x), big.NewInt(y))
		return saturated(rounded(product, new(big.Int).Lsh(big.NewInt(1), 32)))
	})
}

func TestDiv(t *testing.T) {
	checkPairs(t, "Div", fix.F.Div, []pairCase{
		{fix.Int(6), fix.Int(3), fix.Int(2)}, {fix.Int(-6), fix.Int(3), fix.Int(-2)}, {fix.Int(6), fix.Int(-3), fix.Int(-2)}, {fix.Int(-6), fix.Int(-3), fix.Int(2)},
		{fix.One, fix.Int(3), 1431655765}, {fix.Int(2), fix.Int(3), 2863311531}, {0, fix.One, 0}, {0, -fix.One, 0},
		// Ties, to the even one, on both sides of 0.
		{1, fix.Int(2), 0}, {3, fix.Int(2), 2}, {5, fix.Int(2), 2}, {7, fix.Int(2), 4}, {-1, fix.Int(2), 0}, {-3, fix.Int(2), -2}, {5, fix.Int(-2), -2}, {-7, fix.Int(-2), 4},
		// Just beside a tie.
		{1, fix.Int(2) - 1, 1}, {1, fix.Int(2) + 1, 0}, {3, fix.Int(2) + 1, 1}, {-1, fix.Int(2) - 1, -1},
		// A divisor 0.
		{1, 0, fix.Max}, {fix.One, 0, fix.Max}, {fix.Max, 0, fix.Max}, {-1, 0, fix.Min}, {-fix.One, 0, fix.Min}, {fix.Min, 0, fix.Min}, {0, 0, 0},
		// Saturation.
		{fix.One, 1, fix.Max}, {fix.One, -1, fix.Min}, {fix.Max, 1, fix.Max}, {fix.Min, 1, fix.Min}, {fix.Max, -1, fix.Min}, {fix.Min, -1, fix.Max},
		{fix.Min, -fix.One, fix.Max}, {fix.Max, -fix.One, fix.Min + 1}, {fix.Max, fix.One, fix.Max}, {fix.Min, fix.One, fix.Min},
		{fix.Max, fix.One - 1, fix.Max}, {fix.Min, fix.One - 1, fix.Min}, {1 << 31, 1, fix.Max}, {1<<31 - 1, 1, fix.Int(1<<31 - 1)}, {-1 << 31, 1, fix.Min},
		// The greatest divisors, for which twice the remainder exceeds the magnitudes.
		{fix.Min, fix.Min, fix.One}, {fix.Max, fix.Min, -fix.One}, {fix.Max, fix.Max, fix.One}, {fix.Min, fix.Max, -fix.One},
		{1, fix.Max, 0}, {1 << 30, fix.Min, 0}, {1<<30 + 1, fix.Min, -1}, {3 << 30, fix.Min, -2}, {3<<30 - 1, fix.Min, -1}, {1<<30 - 1, fix.Max, 0}, {1 << 30, fix.Max, 1},
	})
	checkSamples(t, "Div", fix.F.Div, divided)
}

// P1.3

func TestSum(t *testing.T) {
	for _, c := range []struct {
		l    []fix.F
		want fix.F
	}{
		{nil, 0}, {[]fix.F{}, 0}, {[]fix.F{7}, 7}, {[]fix.F{1, 2, 3, -10}, -4}, {[]fix.F{fix.Min}, fix.Min},
		// Saturated after each addition, so that the order counts.
		{[]fix.F{fix.Max, 1, -1}, fix.Max - 1}, {[]fix.F{1, -1, fix.Max}, fix.Max}, {[]fix.F{fix.Max, -1, 1}, fix.Max},
		{[]fix.F{fix.Min, -1, 1}, fix.Min + 1}, {[]fix.F{fix.Max, fix.Max, fix.Min, fix.Min}, fix.Min}, {[]fix.F{fix.Max, fix.Min, fix.Max, fix.Min}, -2},
	} {
		if got := fix.Sum(c.l...); got != c.want {
			t.Errorf("Sum(%v): %d, not %d", c.l, got, c.want)
		}
	}
	if got := fix.Sum(1, 2); got != 3 {
		t.Errorf("Sum(1, 2): %d", got)
	}
}

func TestDot(t *testing.T) {
	half := fix.One / 2
	for _, c := range []struct {
		a, b []fix.F
		want fix.F
	}{
		{nil, nil, 0}, {[]fix.F{fix.One}, nil, 0}, {nil, []fix.F{fix.One}, 0}, {[]fix.F{}, nil, 0},
		{[]fix.F{fix.Int(2)}, []fix.F{fix.Int(3)}, fix.Int(6)},
		{[]fix.F{fix.Int(2), fix.Int(-3)}, []fix.F{fix.Int(5), fix.Int(7)}, fix.Int(-11)},
		{[]fix.F{fix.One, fix.Int(2)}, []fix.F{5, 7, 9}, 19}, {[]fix.F{5, 7, 9}, []fix.F{fix.One, fix.Int(2)}, 19},
		// Each product is rounded, not the sum: 0.5 + 0.5, then 1.5 + 1.5.
		{[]fix.F{1, 1}, []fix.F{half, half}, 0}, {[]fix.F{3, 3}, []fix.F{half, half}, 4},
		// Each product and each sum saturates.
		{[]fix.F{fix.Max, -fix.One}, []fix.F{fix.Int(2), fix.One}, fix.Max - fix.One},
		{[]fix.F{fix.Max, fix.One, -fix.One}, []fix.F{fix.One, fix.One, fix.One}, fix.Max - fix.One},
		{[]fix.F{-fix.One, fix.One, fix.Max}, []fix.F{fix.One, fix.One, fix.One}, fix.Max},
		{[]fix.F{fix.Min, fix.One}, []fix.F{fix.Int(2), fix.One}, fix.Min + fix.One},
	} {
		if got := fix.Dot(c.a, c.b); got != c.want {
			t.Errorf("Dot(%v, %v): %d, not %d", c.a, c.b, got, c.want)
		}
	}
}

func TestClamp(t *testing.T) {
	for _, c := range []struct{ x, low, high, want fix.F }{
		{2, 1, 3, 2}, {5, 1, 3, 3}, {-5, 1, 3, 1}, {1, 1, 3, 1}, {3, 1, 3, 3}, {4, 1, 3, 3}, {0, 1, 3, 1}, {9, 4, 4, 4},
		{-2, -3, -1, -2}, {0, -3, -1, -1}, {fix.Min, -3, -1, -3},
		{fix.Max, fix.Min, fix.Max, fix.Max}, {fix.Min, fix.Min, fix.Max, fix.Min}, {0, fix.Max, fix.Max, fix.Max}, {0, fix.Min, fix.Min, fix.Min},
		// Bounds in the wrong order: high is asked first.
		{5, 3, 1, 1}, {2, 3, 1, 1}, {1, 3, 1, 3}, {0, 3, 1, 3}, {0, fix.Max, fix.Min, fix.Min}, {fix.Min, fix.Max, fix.Min, fix.Max},
	} {
		if got := fix.Clamp(c.x, c.low, c.high); got != c.want {
			t.Errorf("Clamp(%d, %d, %d): %d, not %d", c.x, c.low, c.high, got, c.want)
		}
	}
}

func TestArgumentsStayAsTheyAre(t *testing.T) {
	a := []fix.F{fix.Max, 2, -3, 4}
	b := []fix.F{fix.Min, 6, 7, -8}
	wasA, wasB := slices.Clone(a), slices.Clone(b)
	fix.Sum(a[:2]...)
	fix.Dot(a[:2], b[:3])
	if !slices.Equal(a, wasA) || !slices.Equal(b, wasB) {
		t.Errorf("%v, %v, not %v, %v", a, b, wasA, wasB)
	}
}

// The examples of the chapter.
func TestExamples(t *testing.T) {
	if got := fix.One.Mul(fix.One); got != fix.One {
		t.Errorf("1 times 1: %d", got)
	}
	if got := fix.F(1).Mul(fix.F(1)); got != 0 {
		t.Errorf("the least number squared: %d", got)
	}
	if got := fix.F(3).Mul(fix.One.Div(fix.Int(2))); got != 2 {
		t.Errorf("a half of F(3): %d", got)
	}
}

// P1 of DOC.md: no arguments make a function panic.
func TestAllArguments(t *testing.T) {
	for _, x := range edges() {
		for _, y := range edges() {
			f, g := fix.F(x), fix.F(y)
			fix.Int(int(x))
			fix.Ratio(int(x), int(y))
			f.Add(g)
			f.Sub(g)
			f.Mul(g)
			f.Div(g)
			f.Neg()
			f.Abs()
			f.Floor()
			fix.Sum(f, g, f)
			fix.Dot([]fix.F{f, g}, []fix.F{g})
			fix.Clamp(f, g, 0)
		}
	}
}
