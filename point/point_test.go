package point_test

import (
	"math"
	"math/big"
	"slices"
	"testing"

	"athanor/api"
	"athanor/fix"
	"athanor/point"
	"athanor/shape"
	"athanor/tensor"
)

const (
	one  = fix.One
	most = fix.Max
	last = fix.Min
)

// otherKinds are numbers that are no kinds.
func otherKinds() []int {
	return []int{0, -1, -2, -7, 8, 9, 10, 15, 16, 255, 257, 1<<32 + 1, 1<<32 + 6, math.MaxInt, math.MinInt, math.MinInt + 1}
}

// edges are numbers at each bound of the kinds and next to it, ties of the rounding, and those whose sums and products saturate.
func edges() []fix.F {
	var l []fix.F
	for _, x := range []fix.F{0, one / 4, one / 2, one, 2 * one, 3 * one, 1 << 47, most / 2} {
		for d := fix.F(-6); d <= 6; d++ {
			l = append(l, x+d, -x+d)
		}
	}
	return append(l, most, most-1, last, last+1, last+2)
}

// few are some of the edges.
func few() []fix.F {
	return []fix.F{0, 1, -1, 2, -2, 3, -3, 6, one / 2, -one / 2, one, -one, 3*one + 5, -7 * one / 3, 1 << 48, -1 << 48, most, last}
}

// saturated returns x, or the nearest number.
func saturated(x *big.Int) fix.F {
	switch {
	case x.IsInt64():
		return fix.F(x.Int64())
	case x.Sign() < 0:
		return math.MinInt64
	}
	return math.MaxInt64
}

// product returns x times y, in exact arithmetic, rounded to the nearest, and to the even one in case of a tie.
func product(x, y fix.F) fix.F {
	exact := new(big.Int).Mul(big.NewInt(int64(x)), big.NewInt(int64(y)))
	whole, rest := new(big.Int).DivMod(exact, big.NewInt(1<<32), new(big.Int)) // rounded down
	if tie := rest.Cmp(big.NewInt(1 << 31)); tie > 0 || tie == 0 && whole.Bit(0) == 1 {
		whole.Add(whole, big.NewInt(1))
	}
	return saturated(whole)
}

// before returns what Sigmoid clamps, which always is a number.
func before(x fix.F) fix.F {
	return product(x, 1<<30) + 1<<31
}

// wantCell is what the table of the chapter says of the output cell.
func wantCell(kind int, k, x, y fix.F) fix.F {
	switch kind {
	case 1:
		if x > 0 {
			return x
		}
		return 0
	case 2:
		if x > 0 {
			return x
		}
		return product(x, k)
	case 3:
		return min(max(x, -1<<32), 1<<32)
	case 4:
		return min(max(before(x), 0), 1<<32)
	case 5:
		return product(x, k)
	case 6:
		return saturated(new(big.Int).Add(big.NewInt(int64(x)), big.NewInt(int64(y))))
	}
	return product(x, y)
}

// wantSlope is what the table of the chapter says of the gradients.
func wantSlope(kind int, k, x, y, g fix.F) (fix.F, fix.F) {
	switch kind {
	case 1:
		if x > 0 {
			return g, 0
		}
	case 2:
		if x > 0 {
			return g, 0
		}
		return product(g, k), 0
	case 3:
		if x > -1<<32 && x < 1<<32 {
			return g, 0
		}
	case 4:
		if v := before(x); v > 0 && v < 1<<32 {
			return product(g, 1<<30), 0
		}
	case 5:
		return product(g, k), 0
	case 6:
		return g, g
	case 7:
		return product(g, y), product(g, x)
	}
	return 0, 0
}

// inputs is the number of inputs that the table of the chapter gives.
func inputs(kind int) int {
	if kind >= 6 {
		return 2
	}
	return 1
}

// vector is a tensor with one dimension.
func vector(cells ...fix.F) tensor.Tensor {
	return tensor.Tensor{S: shape.Shape{len(cells)}, Cells: cells}
}

// mixed is a tensor whose cells are of both signs, and on both sides of the bounds; another seed gives other cells.
func mixed(s shape.Shape, seed int) tensor.Tensor {
	l := edges()
	n := 1
	for _, length := range s {
		n *= length
	}
	cells := make([]fix.F, n)
	for i := range cells {
		cells[i] = l[(i*37+seed*11)%len(l)]
	}
	return tensor.Tensor{S: s, Cells: cells}
}

// validShapes are of each number of sides, some at the limits.
func validShapes() []shape.Shape {
	return []shape.Shape{{1}, {7}, {2, 3}, {3, 2}, {1, 6}, {6, 1}, {2, 3, 4}, {1, 1, 1}, {2, 3, 4, 5}, {1, 2, 1, 3}, {1024}, {64, 1024}, {16, 16, 16, 16}}
}

// wrong are tensors that are not valid.
func wrong() []tensor.Tensor {
	return []tensor.Tensor{
		{}, {S: shape.Shape{1}}, {Cells: []fix.F{1}}, {S: shape.Shape{}, Cells: []fix.F{}}, {S: shape.Shape{}, Cells: []fix.F{1}}, {S: shape.Shape{0}}, {S: shape.Shape{2, 0}}, {S: shape.Shape{-1}, Cells: []fix.F{1}}, {S: shape.Shape{-2, -3}, Cells: make([]fix.F, 6)},
		{S: shape.Shape{2, 3}, Cells: make([]fix.F, 5)}, {S: shape.Shape{2, 3}, Cells: make([]fix.F, 5, 6)}, {S: shape.Shape{2, 3}, Cells: make([]fix.F, 7)}, {S: shape.Shape{2, 3}},
		{S: shape.Shape{1, 1, 1, 1, 1}, Cells: make([]fix.F, 1)}, {S: shape.Shape{1025}, Cells: make([]fix.F, 1025)}, {S: shape.Shape{65, 1024}, Cells: make([]fix.F, 65*1024)},
		{S: shape.Shape{1 << 32, 1 << 32}}, {S: shape.Shape{math.MaxInt, math.MaxInt}, Cells: []fix.F{1}}, {S: shape.Shape{math.MinInt}},
	}
}

// is reports whether a tensor has this shape and these cells.
func is(g tensor.Tensor, s shape.Shape, cells []fix.F) bool {
	return slices.Equal(g.S, s) && slices.Equal(g.Cells, cells)
}

// overwrite changes all the memory of a tensor, to the capacities.
func overwrite(g tensor.Tensor) {
	s, cells := g.S[:cap(g.S)], g.Cells[:cap(g.Cells)]
	for i := range s {
		s[i] = -77
	}
	for i := range cells {
		cells[i] = -99
	}
}

// P5.1

func TestIns(t *testing.T) {
	for i, kind := range []int{point.Relu, point.Leaky, point.Tanh, point.Sigmoid, point.Scale, point.Plus, point.Times} {
		if kind != i+1 {
			t.Errorf("the kind with the index %d is %d", i, kind)
		}
		if got := point.Ins(kind); got != inputs(i+1) {
			t.Errorf("Ins of %d: %d", kind, got)
		}
	}
	for _, kind := range otherKinds() {
		if got := point.Ins(kind); got != 0 {
			t.Errorf("Ins of %d: %d", kind, got)
		}
	}
}

func TestCell(t *testing.T) {
	for _, c := range []struct {
		kind    int
		k, x, y fix.F
		want    fix.F
	}{
		{point.Relu, 0, 5, 0, 5}, {point.Relu, 0, -5, 0, 0}, {point.Relu, 0, 0, 0, 0}, {point.Relu, 0, 1, 0, 1}, {point.Relu, 0, -1, 0, 0}, {point.Relu, 0, most, 0, most}, {point.Relu, 0, last, 0, 0},
		// k is used at 0 and below it.
		{point.Leaky, one / 2, 6, 0, 6}, {point.Leaky, one / 2, -6, 0, -3}, {point.Leaky, one / 2, 0, 0, 0}, {point.Leaky, 2 * one, 1, 0, 1}, {point.Leaky, 2 * one, -1, 0, -2}, {point.Leaky, -2 * one, -4, 0, 8}, {point.Leaky, -2 * one, 4, 0, 4}, {point.Leaky, 0, -4, 0, 0}, {point.Leaky, 0, 4, 0, 4},
		{point.Leaky, one / 2, -1, 0, 0}, {point.Leaky, one / 2, -3, 0, -2}, {point.Leaky, 2 * one, last, 0, last}, {point.Leaky, -one, last, 0, most}, {point.Leaky, most, last, 0, last}, {point.Leaky, last, last, 0, most}, {point.Leaky, last, most, 0, most},
		{point.Tanh, 0, 5, 0, 5}, {point.Tanh, 0, -5, 0, -5}, {point.Tanh, 0, 0, 0, 0}, {point.Tanh, 0, one, 0, one}, {point.Tanh, 0, one - 1, 0, one - 1}, {point.Tanh, 0, one + 1, 0, one}, {point.Tanh, 0, -one, 0, -one}, {point.Tanh, 0, -one + 1, 0, -one + 1}, {point.Tanh, 0, -one - 1, 0, -one}, {point.Tanh, 0, most, 0, one}, {point.Tanh, 0, last, 0, -one},
		{point.Sigmoid, 0, 0, 0, one / 2}, {point.Sigmoid, 0, one, 0, one / 4 * 3}, {point.Sigmoid, 0, -one, 0, one / 4}, {point.Sigmoid, 0, 4, 0, one/2 + 1}, {point.Sigmoid, 0, -4, 0, one/2 - 1},
		// The quarter is rounded, to the even one in case of a tie.
		{point.Sigmoid, 0, 1, 0, one / 2}, {point.Sigmoid, 0, 2, 0, one / 2}, {point.Sigmoid, 0, 3, 0, one/2 + 1}, {point.Sigmoid, 0, 6, 0, one/2 + 2}, {point.Sigmoid, 0, -6, 0, one/2 - 2},
		{point.Sigmoid, 0, -2 * one, 0, 0}, {point.Sigmoid, 0, -2*one + 2, 0, 0}, {point.Sigmoid, 0, -2*one + 3, 0, 1}, {point.Sigmoid, 0, -2*one - 4, 0, 0}, {point.Sigmoid, 0, 2 * one, 0, one}, {point.Sigmoid, 0, 2*one - 2, 0, one}, {point.Sigmoid, 0, 2*one - 3, 0, one - 1}, {point.Sigmoid, 0, 2*one + 4, 0, one}, {point.Sigmoid, 0, most, 0, one}, {point.Sigmoid, 0, last, 0, 0},
		{point.Scale, 3 * one, 5, 0, 15}, {point.Scale, 3 * one, -5, 0, -15}, {point.Scale, -3 * one, 5, 0, -15}, {point.Scale, -3 * one, -5, 0, 15}, {point.Scale, 0, 5, 0, 0}, {point.Scale, one / 2, 3, 0, 2}, {point.Scale, one / 2, 1, 0, 0}, {point.Scale, 2 * one, most/2 + 1, 0, most}, {point.Scale, 2 * one, last/2 - 1, 0, last}, {point.Scale, -one, last, 0, most},
		{point.Plus, 0, 5, 7, 12}, {point.Plus, 0, -5, 7, 2}, {point.Plus, 0, 5, -7, -2}, {point.Plus, 0, most, 1, most}, {point.Plus, 0, 1, most, most}, {point.Plus, 0, last, -1, last}, {point.Plus, 0, -1, last, last}, {point.Plus, 0, most, last, -1}, {point.Plus, 0, most, most, most}, {point.Plus, 0, last, last, last},
		{point.Times, 0, 5 * one, 7 * one, 35 * one}, {point.Times, 0, -5 * one, 7 * one, -35 * one}, {point.Times, 0, -5 * one, -7 * one, 35 * one}, {point.Times, 0, 5, 0, 0}, {point.Times, 0, 0, 5, 0}, {point.Times, 0, 3, one / 2, 2}, {point.Times, 0, one / 2, 1, 0}, {point.Times, 0, most, 2 * one, most}, {point.Times, 0, most, -2 * one, last}, {point.Times, 0, last, -one, most}, {point.Times, 0, most, last, last},
	} {
		if got := point.Cell(c.kind, c.k, c.x, c.y); got != c.want {
			t.Errorf("Cell of kind %d, k %d, x %d, y %d: %d, not %d", c.kind, c.k, c.x, c.y, got, c.want)
		}
	}
}

func TestSlope(t *testing.T) {
	for _, c := range []struct {
		kind         int
		k, x, y, g   fix.F
		wantX, wantY fix.F
	}{
		{point.Relu, 0, 5, 0, 8, 8, 0}, {point.Relu, 0, 1, 0, -8, -8, 0}, {point.Relu, 0, 0, 0, 8, 0, 0}, {point.Relu, 0, -1, 0, 8, 0, 0}, {point.Relu, 0, most, 0, last, last, 0}, {point.Relu, 0, last, 0, most, 0, 0},
		{point.Leaky, one / 2, 1, 0, 8, 8, 0}, {point.Leaky, one / 2, 0, 0, 8, 4, 0}, {point.Leaky, one / 2, -1, 0, 8, 4, 0}, {point.Leaky, -one / 2, -1, 0, 8, -4, 0}, {point.Leaky, -one / 2, 0, 0, 8, -4, 0}, {point.Leaky, -one / 2, 1, 0, 8, 8, 0}, {point.Leaky, 0, 0, 0, 8, 0, 0}, {point.Leaky, 0, -1, 0, 8, 0, 0}, {point.Leaky, 0, 1, 0, 8, 8, 0}, {point.Leaky, one / 2, -5, 0, 3, 2, 0}, {point.Leaky, 2 * one, -5, 0, most, most, 0}, {point.Leaky, -one, -5, 0, last, most, 0},
		{point.Tanh, 0, 0, 0, 8, 8, 0}, {point.Tanh, 0, one - 1, 0, 8, 8, 0}, {point.Tanh, 0, one, 0, 8, 0, 0}, {point.Tanh, 0, one + 1, 0, 8, 0, 0}, {point.Tanh, 0, -one + 1, 0, -8, -8, 0}, {point.Tanh, 0, -one, 0, 8, 0, 0}, {point.Tanh, 0, -one - 1, 0, 8, 0, 0}, {point.Tanh, 0, most, 0, 8, 0, 0}, {point.Tanh, 0, last, 0, 8, 0, 0}, {point.Tanh, 0, 0, 0, last, last, 0},
		{point.Sigmoid, 0, 0, 0, 8, 2, 0}, {point.Sigmoid, 0, 0, 0, -8, -2, 0}, {point.Sigmoid, 0, 0, 0, 2, 0, 0}, {point.Sigmoid, 0, 0, 0, 3, 1, 0}, {point.Sigmoid, 0, 0, 0, 6, 2, 0}, {point.Sigmoid, 0, 0, 0, most, 1 << 61, 0}, {point.Sigmoid, 0, 0, 0, last, -1 << 61, 0},
		// The value before clamping is at a bound where x is at most 2 away from the bound for x.
		{point.Sigmoid, 0, -2 * one, 0, 8, 0, 0}, {point.Sigmoid, 0, -2*one + 2, 0, 8, 0, 0}, {point.Sigmoid, 0, -2*one + 3, 0, 8, 2, 0}, {point.Sigmoid, 0, -2*one - 4, 0, 8, 0, 0}, {point.Sigmoid, 0, 2 * one, 0, 8, 0, 0}, {point.Sigmoid, 0, 2*one - 2, 0, 8, 0, 0}, {point.Sigmoid, 0, 2*one - 3, 0, 8, 2, 0}, {point.Sigmoid, 0, 2*one + 4, 0, 8, 0, 0}, {point.Sigmoid, 0, most, 0, 8, 0, 0}, {point.Sigmoid, 0, last, 0, 8, 0, 0},
		{point.Scale, 3 * one, 5, 0, 8, 24, 0}, {point.Scale, -3 * one, 5, 0, 8, -24, 0}, {point.Scale, 3 * one, -5, 0, 8, 24, 0}, {point.Scale, 0, 5, 0, 8, 0, 0}, {point.Scale, one / 2, 5, 0, 3, 2, 0}, {point.Scale, 2 * one, 5, 0, most, most, 0}, {point.Scale, 2 * one, 5, 0, last, last, 0},
		{point.Plus, 0, 5, 7, 8, 8, 8}, {point.Plus, 0, -5, -7, -8, -8, -8}, {point.Plus, 0, most, most, last, last, last}, {point.Plus, 0, 0, 0, 8, 8, 8},
		{point.Times, 0, 5 * one, 7 * one, 8, 56, 40}, {point.Times, 0, -5 * one, 7 * one, 8, 56, -40}, {point.Times, 0, 5 * one, 0, 8, 0, 40}, {point.Times, 0, 0, 5 * one, 8, 40, 0}, {point.Times, 0, one / 2, 3, one / 2, 2, one / 4}, {point.Times, 0, 2 * one, -2 * one, most, last, most}, {point.Times, 0, -one, last, last, most, most},
	} {
		x, y := point.Slope(c.kind, c.k, c.x, c.y, c.g)
		if x != c.wantX || y != c.wantY {
			t.Errorf("Slope of kind %d, k %d, x %d, y %d, g %d: %d and %d, not %d and %d", c.kind, c.k, c.x, c.y, c.g, x, y, c.wantX, c.wantY)
		}
	}
}

// Every kind is compared with exact arithmetic. k and y are varied for all kinds, so they have no effect where they are not used.
func TestCellsAreExact(t *testing.T) {
	for kind := 1; kind <= 7; kind++ {
		for _, x := range edges() {
			for _, y := range few() {
				for _, k := range few() {
					if got, want := point.Cell(kind, k, x, y), wantCell(kind, k, x, y); got != want {
						t.Fatalf("Cell of kind %d, k %d, x %d, y %d: %d, not %d", kind, k, x, y, got, want)
					}
				}
			}
		}
	}
}

func TestSlopesAreExact(t *testing.T) {
	factors := []fix.F{0, -3, one / 2, -7 * one / 3, most, last}
	for kind := 1; kind <= 7; kind++ {
		for _, x := range edges() {
			for _, g := range few() {
				for _, y := range factors {
					for _, k := range factors {
						gotX, gotY := point.Slope(kind, k, x, y, g)
						if wantX, wantY := wantSlope(kind, k, x, y, g); gotX != wantX || gotY != wantY {
							t.Fatalf("Slope of kind %d, k %d, x %d, y %d, g %d: %d and %d, not %d and %d", kind, k, x, y, g, gotX, gotY, wantX, wantY)
						}
					}
				}
			}
		}
	}
}

func TestOtherKindsAreZero(t *testing.T) {
	for _, kind := range otherKinds() {
		for _, x := range few() {
			for _, y := range few() {
				if got := point.Cell(kind, one, x, y); got != 0 {
					t.Errorf("Cell of kind %d, x %d, y %d: %d", kind, x, y, got)
				}
				if gotX, gotY := point.Slope(kind, one, x, y, 8); gotX != 0 || gotY != 0 {
					t.Errorf("Slope of kind %d, x %d, y %d: %d and %d", kind, x, y, gotX, gotY)
				}
			}
		}
	}
}

// P5.2

func TestGoAndBack(t *testing.T) {
	x, y := vector(-2*one, -one, -4, 0, 4, one, most), vector(one, 2*one, 8, 5, -8, 3*one, one)
	g := vector(8, 8, 8, 8, 8, 8, -8)
	for _, c := range []struct {
		kind int
		k    fix.F
		ins  []tensor.Tensor
		out  []fix.F
		back [][]fix.F
	}{
		{point.Relu, 0, []tensor.Tensor{x}, []fix.F{0, 0, 0, 0, 4, one, most}, [][]fix.F{{0, 0, 0, 0, 8, 8, -8}}},
		{point.Leaky, one / 2, []tensor.Tensor{x}, []fix.F{-one, -one / 2, -2, 0, 4, one, most}, [][]fix.F{{4, 4, 4, 4, 8, 8, -8}}},
		{point.Leaky, -2 * one, []tensor.Tensor{x}, []fix.F{4 * one, 2 * one, 8, 0, 4, one, most}, [][]fix.F{{-16, -16, -16, -16, 8, 8, -8}}},
		{point.Tanh, 0, []tensor.Tensor{x}, []fix.F{-one, -one, -4, 0, 4, one, one}, [][]fix.F{{0, 0, 8, 8, 8, 0, 0}}},
		{point.Sigmoid, 0, []tensor.Tensor{x}, []fix.F{0, one / 4, one/2 - 1, one / 2, one/2 + 1, one / 4 * 3, one}, [][]fix.F{{0, 2, 2, 2, 2, 2, 0}}},
		{point.Scale, 2 * one, []tensor.Tensor{x}, []fix.F{-4 * one, -2 * one, -8, 0, 8, 2 * one, most}, [][]fix.F{{16, 16, 16, 16, 16, 16, -16}}},
		{point.Plus, 0, []tensor.Tensor{x, y}, []fix.F{-one, one, 4, 5, -4, 4 * one, most}, [][]fix.F{{8, 8, 8, 8, 8, 8, -8}, {8, 8, 8, 8, 8, 8, -8}}},
		{point.Times, 0, []tensor.Tensor{x, y}, []fix.F{-2 * one, -2 * one, 0, 0, 0, 3 * one, most}, [][]fix.F{{8, 16, 0, 0, 0, 24, -8}, {-16, -8, 0, 0, 0, 8, -1 << 34}}},
	} {
		out, err := point.Go(c.kind, c.k, c.ins...)
		if err != api.OK || !is(out, shape.Shape{7}, c.out) {
			t.Errorf("Go of kind %d, k %d: %v, error %d, not %d", c.kind, c.k, out, err, c.out)
		}
		back, err := point.Back(c.kind, c.k, g, c.ins...)
		if err != api.OK || len(back) != len(c.back) {
			t.Errorf("Back of kind %d, k %d: %v, error %d, not %d", c.kind, c.k, back, err, c.back)
			continue
		}
		for i := range back {
			if !is(back[i], shape.Shape{7}, c.back[i]) {
				t.Errorf("Back of kind %d, k %d, input %d: %v, not %d", c.kind, c.k, i, back[i], c.back[i])
			}
		}
	}
}

// Each cell of the results is that of the same place, in all shapes.
func TestAllPlaces(t *testing.T) {
	k := -3*one/2 + 1
	for _, s := range validShapes() {
		g, x, y := mixed(s, 1), mixed(s, 2), mixed(s, 3)
		for kind := 1; kind <= 7; kind++ {
			var out []fix.F
			back := make([][]fix.F, 2)
			for place := range g.Cells {
				out = append(out, wantCell(kind, k, x.Cells[place], y.Cells[place]))
				ofX, ofY := wantSlope(kind, k, x.Cells[place], y.Cells[place], g.Cells[place])
				back[0], back[1] = append(back[0], ofX), append(back[1], ofY)
			}
			checkResults(t, kind, k, g, []tensor.Tensor{x, y}[:inputs(kind)], out, back)
		}
	}
}

// Both inputs are one tensor, which is the output gradient as well.
func TestOneTensor(t *testing.T) {
	x := vector(-3*one, -one, 0, one, 4*one, most, last)
	checkResults(t, point.Plus, 0, x, []tensor.Tensor{x, x}, []fix.F{-6 * one, -2 * one, 0, 2 * one, 8 * one, most, last}, [][]fix.F{x.Cells, x.Cells})
	squares := []fix.F{9 * one, one, 0, one, 16 * one, most, most}
	checkResults(t, point.Times, 0, x, []tensor.Tensor{x, x}, squares, [][]fix.F{squares, squares})
	if !slices.Equal(x.Cells, []fix.F{-3 * one, -one, 0, one, 4 * one, most, last}) {
		t.Errorf("an argument was changed: %v", x)
	}
}

// checkResults calls Go and Back, whose results have the shape of g.
func checkResults(t *testing.T, kind int, k fix.F, g tensor.Tensor, ins []tensor.Tensor, out []fix.F, back [][]fix.F) {
	t.Helper()
	if got, err := point.Go(kind, k, ins...); err != api.OK || !is(got, g.S, out) {
		t.Errorf("Go of kind %d in %v: shape %v, error %d, or wrong cells", kind, g.S, got.S, err)
	}
	got, err := point.Back(kind, k, g, ins...)
	if err != api.OK || len(got) != len(ins) {
		t.Fatalf("Back of kind %d in %v: %d gradients, error %d", kind, g.S, len(got), err)
	}
	for i := range got {
		if !is(got[i], g.S, back[i]) {
			t.Errorf("Back of kind %d in %v: gradient %d has the shape %v, or wrong cells", kind, g.S, i, got[i].S)
		}
	}
}

// refuses checks that Go and Back return an error and nothing else.
func refuses(t *testing.T, want api.Errno, kind int, g tensor.Tensor, ins ...tensor.Tensor) {
	t.Helper()
	if got, err := point.Go(kind, one, ins...); err != want || len(got.S) != 0 || len(got.Cells) != 0 {
		t.Errorf("Go of kind %d with %d inputs: %v, error %d, not %d", kind, len(ins), got, err, want)
	}
	refusesBack(t, want, kind, g, ins...)
}

func refusesBack(t *testing.T, want api.Errno, kind int, g tensor.Tensor, ins ...tensor.Tensor) {
	t.Helper()
	if got, err := point.Back(kind, one, g, ins...); err != want || len(got) != 0 {
		t.Errorf("Back of kind %d with %d inputs: %v, error %d, not %d", kind, len(ins), got, err, want)
	}
}

// That there is no such kind is reported before everything else.
func TestNoSuchKind(t *testing.T) {
	a, b := vector(1, 2), vector(3, 4)
	for _, kind := range otherKinds() {
		refuses(t, api.ErrOp, kind, a)
		refuses(t, api.ErrOp, kind, a, b)
		refuses(t, api.ErrOp, kind, a, a, b)
		refuses(t, api.ErrOp, kind, a, b, vector(1))
		refuses(t, api.ErrOp, kind, vector(1), b)
		refuses(t, api.ErrOp, kind, tensor.Tensor{}, tensor.Tensor{}, b)
	}
}

func TestNumberOfInputs(t *testing.T) {
	a := vector(1, 2)
	for kind := 1; kind <= 7; kind++ {
		for n := range 10 {
			if n != inputs(kind) {
				refuses(t, api.ErrShape, kind, a, slices.Repeat([]tensor.Tensor{a}, n)...)
				refuses(t, api.ErrShape, kind, tensor.Tensor{}, slices.Repeat([]tensor.Tensor{a}, n)...)
			}
		}
	}
}

func TestInputsThatAreNotValid(t *testing.T) {
	a := vector(1, 2)
	for _, w := range wrong() {
		for kind := 1; kind <= 5; kind++ {
			refuses(t, api.ErrShape, kind, a, w)
			refuses(t, api.ErrShape, kind, w, w)
		}
		same := tensor.Tensor{S: w.S, Cells: []fix.F{1}}
		for _, kind := range []int{point.Plus, point.Times} {
			refuses(t, api.ErrShape, kind, a, w, a)
			refuses(t, api.ErrShape, kind, a, a, w)
			refuses(t, api.ErrShape, kind, w, w, w)
			refuses(t, api.ErrShape, kind, w, same, w)
		}
	}
	// One input is valid, and the other one only has its shape.
	for _, n := range []int{0, 1, 3, 4} {
		short := tensor.Tensor{S: shape.Shape{2}, Cells: make([]fix.F, n)}
		for _, kind := range []int{point.Plus, point.Times} {
			refuses(t, api.ErrShape, kind, a, a, short)
			refuses(t, api.ErrShape, kind, a, short, a)
		}
	}
}

func TestShapesThatDiffer(t *testing.T) {
	for _, s := range validShapes() {
		for _, u := range validShapes() {
			if slices.Equal(s, u) {
				continue
			}
			a, b := mixed(s, 1), mixed(u, 1)
			for _, kind := range []int{point.Plus, point.Times} {
				refuses(t, api.ErrShape, kind, a, a, b)
				refuses(t, api.ErrShape, kind, b, a, b)
				refusesBack(t, api.ErrShape, kind, b, a, a)
			}
			for kind := 1; kind <= 5; kind++ {
				refusesBack(t, api.ErrShape, kind, b, a)
			}
		}
	}
}

func TestOutputGradientsThatAreNotValid(t *testing.T) {
	list := append(wrong(), tensor.Tensor{S: shape.Shape{2, 3}, Cells: make([]fix.F, 1)})
	for _, a := range []tensor.Tensor{vector(1), mixed(shape.Shape{2, 3}, 1), mixed(shape.Shape{1024}, 1)} {
		for _, g := range list {
			for kind := 1; kind <= 7; kind++ {
				refusesBack(t, api.ErrShape, kind, g, []tensor.Tensor{a, a}[:inputs(kind)]...)
			}
		}
	}
}

// Neither the arguments nor their spare memory are changed, and no result shares it, or that of another result.
func TestArgumentsStayAsTheyAre(t *testing.T) {
	sides := shape.Shape{2, 2, 99, 98}
	lists := [][]fix.F{{8, -8, 9, 7, 90, 91}, {-5, one, 3, 0, 92, 93}, {2 * one, -4, -one, 6, 94, 95}}
	fresh := func() []tensor.Tensor {
		var l []tensor.Tensor
		for _, cells := range lists {
			l = append(l, tensor.Tensor{S: slices.Clone(sides)[:2], Cells: slices.Clone(cells)[:4]})
		}
		return l
	}
	whole := func(l []tensor.Tensor) bool {
		for i, x := range l {
			if !slices.Equal(x.S[:4], sides) || !slices.Equal(x.Cells[:6], lists[i]) {
				return false
			}
		}
		return true
	}
	for kind := 1; kind <= 7; kind++ {
		args := fresh()
		g, ins := args[0], slices.Clone(args[1:][:inputs(kind)])
		var results []tensor.Tensor
		for range 2 {
			out, err := point.Go(kind, one/2, ins...)
			back, err2 := point.Back(kind, one/2, g, ins...)
			if err != api.OK || err2 != api.OK {
				t.Fatalf("kind %d: errors %d and %d", kind, err, err2)
			}
			results = append(append(results, out), back...)
		}
		for i := range ins {
			if !tensor.Equal(ins[i], args[i+1]) {
				t.Errorf("kind %d replaced input %d", kind, i)
			}
		}
		var kept []tensor.Tensor
		for _, r := range results {
			kept = append(kept, r.Copy())
		}
		for i, r := range results {
			overwrite(r)
			for j := i + 1; j < len(results); j++ {
				if !is(results[j], kept[j].S, kept[j].Cells) {
					t.Fatalf("kind %d: the results %d and %d share their memory", kind, i, j)
				}
			}
		}
		if !whole(args) {
			t.Errorf("kind %d changed or shares an argument: %v", kind, args)
		}
	}
}

// A later call, or a change of the arguments, leaves earlier results as they are.
func TestArgumentsAreNotRetained(t *testing.T) {
	s := shape.Shape{3}
	for kind := 1; kind <= 7; kind++ {
		g, x, y := mixed(slices.Clone(s), 4), mixed(slices.Clone(s), 5), mixed(slices.Clone(s), 6)
		ins := []tensor.Tensor{x, y}[:inputs(kind)]
		out, _ := point.Go(kind, one, ins...)
		back, _ := point.Back(kind, one, g, ins...)
		keptOut := out.Copy()
		var kept []tensor.Tensor
		for _, r := range back {
			kept = append(kept, r.Copy())
		}
		for _, argument := range []tensor.Tensor{g, x, y} {
			overwrite(argument)
		}
		clear(ins)
		point.Go(kind, 2*one, []tensor.Tensor{vector(1, 2, 3), vector(4, 5, 6)}[:inputs(kind)]...)
		if !tensor.Equal(out, keptOut) || !slices.EqualFunc(back, kept, tensor.Equal[fix.F]) {
			t.Errorf("kind %d retains an argument: %v and %v", kind, out, back)
		}
	}
}

// The example of the chapter.
func TestExample(t *testing.T) {
	x := vector(-one, 2*one)
	checkResults(t, point.Relu, 0, vector(5*one, 7*one), []tensor.Tensor{x}, []fix.F{0, 2 * one}, [][]fix.F{{0, 7 * one}})
}

// P1 of DOC.md: no arguments make a function panic.
func TestAllArguments(t *testing.T) {
	list := append(wrong(), tensor.Tensor{})
	for _, s := range validShapes() {
		list = append(list, mixed(s, 1))
	}
	for _, kind := range append(otherKinds(), 1, 2, 3, 4, 5, 6, 7) {
		point.Ins(kind)
		point.Go(kind, last)
		point.Back(kind, last, tensor.Tensor{})
		for i, x := range list {
			y := list[(i*7+3)%len(list)]
			for _, ins := range [][]tensor.Tensor{nil, {x}, {x, x}, {x, y}, {y, x}, {x, y, x}} {
				point.Go(kind, most, ins...)
				point.Back(kind, most, x, ins...)
				point.Back(kind, last, y, ins...)
			}
		}
		for _, x := range edges() {
			point.Cell(kind, x, last, x)
			point.Slope(kind, x, last, most, x)
		}
	}
}
